/-
  Texts of the proofs of this seat, joined (part 3).
-/
import Derived.Deep.RegionHeld3
import Derived.Deep.AppendLies
import Derived.Deep.CutRange
import Derived.StillTailTactics
import Derived.Test.YtoonpnfhcmghmabDoorJ2
namespace Go.Proofs.YtoonpnfhcmghmabDoor
/-- How many of the first n places are marked. -/
def cntN (p : Nat → Bool) : Nat → Nat
  | 0 => 0
  | n + 1 => cntN p n + (if p n then 1 else 0)
theorem cntN_congr {p q : Nat → Bool} : ∀ {n : Nat}, (∀ i, i < n → p i = q i) → cntN p n = cntN q n
  | 0, _ => rfl
  | n + 1, h => by
    show cntN p n + (if p n then 1 else 0) = cntN q n + (if q n then 1 else 0)
    rw [cntN_congr fun i hi => h i (by omega), h n (by omega)]
theorem cntN_not (p : Nat → Bool) : ∀ n, cntN p n + cntN (fun i => !p i) n = n
  | 0 => rfl
  | n + 1 => by
    have := cntN_not p n
    show cntN p n + (if p n then 1 else 0) + (cntN (fun i => !p i) n + (if !p n then 1 else 0)) = n + 1
    cases p n
    · simp; omega
    · simp; omega
theorem cntN_or {p q r : Nat → Bool} : ∀ {n : Nat}, (∀ i, i < n → r i = true → p i = true ∨ q i = true) → cntN r n ≤ cntN p n + cntN q n
  | 0, _ => Nat.le_refl _
  | n + 1, h => by
    have ih := cntN_or (p := p) (q := q) (r := r) (n := n) fun i hi => h i (by omega)
    have hn := h n (by omega)
    show cntN r n + (if r n then 1 else 0) ≤ cntN p n + (if p n then 1 else 0) + (cntN q n + (if q n then 1 else 0))
    cases hr : r n
    · simp; omega
    · rcases hn hr with e | e <;> simp [e] <;> omega
/-- What lies at the marked places. -/
def selL (p : Nat → Bool) (X : Nat → Int) : Nat → List Int
  | 0 => []
  | n + 1 => if p n then selL p X n ++ [X n] else selL p X n
theorem selL_len (p : Nat → Bool) (X : Nat → Int) : ∀ n, (selL p X n).length = cntN p n
  | 0 => rfl
  | n + 1 => by
    show (if p n then selL p X n ++ [X n] else selL p X n).length = cntN p n + (if p n then 1 else 0)
    have := selL_len p X n
    split
    · rw [List.length_append, this]; rfl
    · omega
theorem selL_congr {p q : Nat → Bool} (X : Nat → Int) : ∀ {n : Nat}, (∀ i, i < n → p i = q i) → selL p X n = selL q X n
  | 0, _ => rfl
  | n + 1, h => by
    show (if p n then selL p X n ++ [X n] else selL p X n) = (if q n then selL q X n ++ [X n] else selL q X n)
    rw [selL_congr X fun i hi => h i (by omega), h n (by omega)]
theorem lf_app (l : List Int) (x : Int) (j : Nat) : lf (l ++ [x]) j = if j < l.length then lf l j else if j = l.length then x else 0 := by
  show (l ++ [x]).getD j 0 = if j < l.length then l.getD j 0 else if j = l.length then x else 0
  rw [List.getD_eq_getElem?_getD, List.getD_eq_getElem?_getD]
  by_cases h : j < l.length
  · rw [if_pos h, List.getElem?_append_left h]
  · rw [if_neg h, List.getElem?_append_right (by omega)]
    by_cases e : j = l.length
    · subst e
      rw [if_pos rfl, Nat.sub_self]
      rfl
    · rw [if_neg e, List.getElem?_eq_none (by simp; omega)]
      rfl
/-- The places that are marked, in their order. -/
theorem sel_idx (p : Nat → Bool) : ∀ n, ∃ s : Nat → Nat, (∀ j, j < cntN p n → s j < n ∧ p (s j) = true) ∧ (∀ i j, i < j → j < cntN p n → s i < s j) ∧ (∀ (X : Nat → Int) j, j < cntN p n → lf (selL p X n) j = X (s j)) ∧ ∀ i, i < n → p i = true → ∃ j, j < cntN p n ∧ s j = i
  | 0 => ⟨fun _ => 0, fun j hj => by have : j < 0 := hj; omega, fun i j _ hj => by have : j < 0 := hj; omega, fun X j hj => by have : j < 0 := hj; omega, fun i hi => by omega⟩
  | n + 1 => by
    obtain ⟨s, h1, h2, h3, h4⟩ := sel_idx p n
    by_cases hp : p n = true
    · have e : cntN p (n + 1) = cntN p n + 1 := by show cntN p n + (if p n then 1 else 0) = _; rw [if_pos hp]
      have eX : ∀ X : Nat → Int, selL p X (n + 1) = selL p X n ++ [X n] := fun X => by show (if p n then selL p X n ++ [X n] else selL p X n) = _; rw [if_pos hp]
      refine ⟨fun j => if j < cntN p n then s j else n, fun j hj => ?_, fun i j hij hj => ?_, fun X j hj => ?_, fun i hi hpi => ?_⟩
      · rw [e] at hj
        by_cases hj2 : j < cntN p n
        · simp only [if_pos hj2]
          have := h1 j hj2
          exact ⟨by omega, this.2⟩
        · simp only [if_neg hj2]
          exact ⟨by omega, hp⟩
      · rw [e] at hj
        have hi2 : i < cntN p n := by omega
        simp only [if_pos hi2]
        by_cases hj2 : j < cntN p n
        · simp only [if_pos hj2]
          exact h2 i j hij hj2
        · simp only [if_neg hj2]
          exact (h1 i hi2).1
      · rw [e] at hj
        rw [eX, lf_app, selL_len]
        by_cases hj2 : j < cntN p n
        · simp only [if_pos hj2]
          exact h3 X j hj2
        · simp only [if_neg hj2]
          rw [if_pos (by omega)]
      · rw [e]
        by_cases hin : i < n
        · obtain ⟨j, hj, hs⟩ := h4 i hin hpi
          exact ⟨j, by omega, by simp only [if_pos hj]; exact hs⟩
        · exact ⟨cntN p n, by omega, by simp only [Nat.lt_irrefl, if_false]; omega⟩
    · have e : cntN p (n + 1) = cntN p n := by show cntN p n + (if p n then 1 else 0) = _; rw [if_neg hp]; rfl
      have eX : ∀ X : Nat → Int, selL p X (n + 1) = selL p X n := fun X => by show (if p n then selL p X n ++ [X n] else selL p X n) = _; rw [if_neg hp]
      rw [e]
      refine ⟨s, fun j hj => ?_, h2, fun X j hj => by rw [eX]; exact h3 X j hj, fun i hi hpi => ?_⟩
      · have := h1 j hj
        exact ⟨by omega, this.2⟩
      · by_cases hin : i < n
        · exact h4 i hin hpi
        · obtain rfl : i = n := by omega
          exact absurd hpi hp
/-- The first k of the marked places. -/
def firstK (p : Nat → Bool) (k : Nat) (i : Nat) : Bool := p i && decide (cntN p i < k)
theorem firstK_cnt (p : Nat → Bool) (k : Nat) : ∀ n, cntN (firstK p k) n = min k (cntN p n)
  | 0 => by show 0 = min k 0; omega
  | n + 1 => by
    have ih := firstK_cnt p k n
    show cntN (firstK p k) n + (if firstK p k n then 1 else 0) = min k (cntN p n + (if p n then 1 else 0))
    rw [ih]
    unfold firstK
    cases hp : p n
    · simp
    · by_cases h : cntN p n < k
      · simp [h]; omega
      · simp [h]; omega
/-- A choice of places as the bits of a number. -/
def bitP (s : Nat) (i : Nat) : Bool := s / 2 ^ i % 2 == 1
theorem mask_exists (q : Nat → Bool) : ∀ n, ∃ s, s < 2 ^ n ∧ ∀ i, i < n → bitP s i = q i
  | 0 => ⟨0, by decide, fun i hi => by omega⟩
  | n + 1 => by
    obtain ⟨s, hs, hb⟩ := mask_exists (fun i => q (i + 1)) n
    refine ⟨2 * s + (if q 0 then 1 else 0), ?_, fun i hi => ?_⟩
    · rw [Nat.pow_succ]
      split <;> omega
    · cases i with
      | zero =>
        unfold bitP
        rw [Nat.pow_zero, Nat.div_one]
        cases q 0
        · simp
        · have : (2 * s + 1) % 2 = 1 := by omega
          simp [this]
      | succ i =>
        have h := hb i (by omega)
        have e : (2 * s + (if q 0 then 1 else 0)) / 2 ^ (i + 1) = s / 2 ^ i := by
          rw [show 2 ^ (i + 1) = 2 * 2 ^ i by rw [Nat.pow_succ, Nat.mul_comm], ← Nat.div_div_eq_div_mul]
          congr 1
          split <;> omega
        unfold bitP at h ⊢
        rw [e]
        exact h
end Go.Proofs.YtoonpnfhcmghmabDoor
namespace Go.Proofs.YtoonpnfhcmghmabDoor
theorem evL_scale (f x c : Int) (l : List Int) : evL f x (scaleL f l c) = RS (evL f x l * c) (P f) := by
  rw [evL_n (scaleL_le f l c)]
  unfold evL RS
  rw [evN_mod (p := P f) (y := x) (B := fun j => c * lf l j) _ rfl (fun j => by rw [lf_scaleL, Int.mul_comm]; simp), evN_smul, Int.mul_comm c]
  exact (emod_mul_congr (Int.emod_emod_of_dvd _ (Int.dvd_refl _)) rfl).symm
theorem distinct_of {f : Int} {X : Nat → Int} {n : Nat} (hb : ∀ j, j < n → 0 ≤ X j ∧ X j < P f) (hd : ∀ i j, i < j → j < n → X i ≠ X j) : DistinctS f X n := fun i j hi hj hij h => by
  rw [← Int.emod_eq_emod_iff_emod_sub_eq_zero, Int.emod_eq_of_lt (hb i hi).1 (hb i hi).2, Int.emod_eq_of_lt (hb j hj).1 (hb j hj).2] at h
  rcases Nat.lt_or_gt_of_ne hij with h2 | h2
  · exact hd i j h2 hj h
  · exact hd j i h2 hi h.symm
/-- The points but the i-th. -/
def othS (X : Nat → Int) (i : Nat) : Nat → Int := fun j => if j < i then X j else X (j + 1)
/-- The product of the X i - X j, j < k, j other than i, as an element. -/
def byF (f : Int) (X : Nat → Int) (i : Nat) : Nat → Int
  | 0 => 1
  | k + 1 => if k = i then byF f X i k else RS (byF f X i k * RS (X i - X k) (P f)) (P f)
theorem byF_lo (f : Int) (X : Nat → Int) (i : Nat) : ∀ k, k ≤ i → byF f X i k % P f = pdZ (X i) (othS X i) k % P f
  | 0, _ => rfl
  | k + 1, h => by
    show (if k = i then byF f X i k else RS (byF f X i k * RS (X i - X k) (P f)) (P f)) % P f = (pdZ (X i) (othS X i) k * (X i - othS X i k)) % P f
    rw [if_neg (by omega)]
    have e : othS X i k = X k := if_pos (by omega)
    rw [e]
    unfold RS
    rw [Int.emod_emod_of_dvd _ (Int.dvd_refl _)]
    exact emod_mul_congr (byF_lo f X i k (by omega)) (Int.emod_emod_of_dvd _ (Int.dvd_refl _))
theorem byF_hi (f : Int) (X : Nat → Int) (i : Nat) : ∀ k, i < k → byF f X i k % P f = pdZ (X i) (othS X i) (k - 1) % P f
  | k + 1, h => by
    show (if k = i then byF f X i k else RS (byF f X i k * RS (X i - X k) (P f)) (P f)) % P f = _
    by_cases e : k = i
    · rw [if_pos e]
      subst e
      exact byF_lo f X k k (Nat.le_refl _)
    · rw [if_neg e]
      obtain ⟨m, rfl⟩ : ∃ m, k = m + 1 := ⟨k - 1, by omega⟩
      have e2 : othS X i m = X (m + 1) := if_neg (by omega)
      show _ = (pdZ (X i) (othS X i) m * (X i - othS X i m)) % P f
      rw [e2]
      unfold RS
      rw [Int.emod_emod_of_dvd _ (Int.dvd_refl _)]
      exact emod_mul_congr (byF_hi f X i (m + 1) (by omega)) (Int.emod_emod_of_dvd _ (Int.dvd_refl _))
theorem byF_ne {f : Int} (h0 : 0 ≤ f) (h8 : f ≤ 8) {X : Nat → Int} {n i : Nat} (hd : DistinctS f X n) (hi : i < n) : byF f X i n % P f ≠ 0 := by
  rw [byF_hi f X i n hi]
  refine pdZ_ne h0 h8 fun j hj => ?_
  unfold othS
  split
  · exact hd i j hi (by omega) (by omega)
  · exact hd i (j + 1) hi (by omega) (by omega)
/-- The i-th term of Lagrange's sum. -/
noncomputable def lagT (f : Int) (X Y : Nat → Int) (n i : Nat) : List Int := scaleL f (vanL f (othS X i) (n - 1)) (RS (Y i * mPower f (byF f X i n) (-1)) (P f))
noncomputable def lagL (f : Int) (X Y : Nat → Int) (n : Nat) : Nat → List Int
  | 0 => []
  | i + 1 => addL f (lagL f X Y n i) (lagT f X Y n i)
theorem lagT_len {f : Int} (h0 : 0 ≤ f) (h8 : f ≤ 8) (X Y : Nat → Int) {n : Nat} (n1 : 1 ≤ n) (i : Nat) : (lagT f X Y n i).length ≤ n := by
  have h1 := scaleL_le f (vanL f (othS X i) (n - 1)) (RS (Y i * mPower f (byF f X i n) (-1)) (P f))
  rw [vanL_len h0 h8] at h1
  unfold lagT
  omega
theorem lagL_len {f : Int} (h0 : 0 ≤ f) (h8 : f ≤ 8) (X Y : Nat → Int) {n : Nat} (n1 : 1 ≤ n) : ∀ i, (lagL f X Y n i).length ≤ n
  | 0 => Nat.zero_le _
  | i + 1 => by
    have h1 := lagL_len h0 h8 X Y n1 i
    have h2 := lagT_len h0 h8 X Y n1 i
    have h3 := addL_le f (lagL f X Y n i) (lagT f X Y n i)
    show (addL f (lagL f X Y n i) (lagT f X Y n i)).length ≤ n
    omega
theorem lagL_pol {f : Int} (h0 : 0 ≤ f) (h8 : f ≤ 8) (X Y : Nat → Int) (n : Nat) : ∀ i, Pol f (lagL f X Y n i)
  | 0 => Pol.nil (by have := P_bd h0 h8; omega)
  | _ + 1 => pol_addL h0 h8 _ _
theorem lagT_ev {f : Int} (h0 : 0 ≤ f) (h8 : f ≤ 8) {X Y : Nat → Int} {n i m : Nat} (hd : DistinctS f X n) (hi : i < n) (hm : m < n) : evL f (X m) (lagT f X Y n i) = if m = i then RS (Y i) (P f) else 0 := by
  unfold lagT
  rw [evL_scale, vanL_ev h0 h8]
  by_cases e : m = i
  · subst e
    rw [if_pos rfl]
    have h1 := byF_hi f X m n hi
    have h2 := inv_mul h0 h8 (byF_ne h0 h8 hd hi)
    obtain ⟨V, hV⟩ : ∃ V, mPower f (byF f X m n) (-1) = V := ⟨_, rfl⟩
    rw [hV] at h2 ⊢
    unfold RS
    have h3 : (pdZ (X m) (othS X m) (n - 1) % P f * (Y m * V % P f)) % P f = (byF f X m n * (Y m * V)) % P f := emod_mul_congr (by rw [Int.emod_emod_of_dvd _ (Int.dvd_refl _)]; exact h1.symm) (Int.emod_emod_of_dvd _ (Int.dvd_refl _))
    rw [h3, show byF f X m n * (Y m * V) = Y m * (V * byF f X m n) by rw [Int.mul_left_comm, Int.mul_comm V]]
    have h4 : (Y m * (V * byF f X m n)) % P f = (Y m * 1) % P f := emod_mul_congr rfl h2
    rw [h4, Int.mul_one]
  · rw [if_neg e]
    have h1 : pdZ (X m) (othS X i) (n - 1) = 0 := by
      by_cases hl : m < i
      · exact pdZ_zero (i := m) (by omega) (by unfold othS; rw [if_pos hl])
      · exact pdZ_zero (i := m - 1) (by omega) (by unfold othS; rw [if_neg (by omega), show m - 1 + 1 = m by omega])
    rw [h1]
    simp [RS]
theorem lagL_ev {f : Int} (h0 : 0 ≤ f) (h8 : f ≤ 8) {X Y : Nat → Int} {n m : Nat} (hd : DistinctS f X n) (hm : m < n) : ∀ i, i ≤ n → evL f (X m) (lagL f X Y n i) = if m < i then RS (Y m) (P f) else 0
  | 0, _ => by
    show evL f (X m) [] = _
    simp [evL, evN, sumN, RS]
  | i + 1, h => by
    show evL f (X m) (addL f (lagL f X Y n i) (lagT f X Y n i)) = _
    rw [evL_add, lagL_ev h0 h8 hd hm i (by omega), lagT_ev h0 h8 hd (by omega) hm]
    by_cases h1 : m < i
    · rw [if_pos h1, if_neg (by omega), if_pos (by omega)]
      simp [RS]
    · rw [if_neg h1]
      by_cases h2 : m = i
      · rw [if_pos h2, if_pos (by omega), h2]
        simp [RS]
      · rw [if_neg h2, if_neg (by omega)]
        simp [RS]
/-- The polynomial through the points. -/
def QInter (f : Int) (X Y : Nat → Int) (n : Nat) (a : List Int) : Prop := Pol f a ∧ a.length ≤ n ∧ ∀ i, i < n → evL f (X i) a = Y i
noncomputable def interL (f : Int) (X Y : Nat → Int) (n : Nat) : List Int := theL (QInter f X Y n)
theorem QInter.unique {f : Int} (h0 : 0 ≤ f) (h8 : f ≤ 8) {X Y : Nat → Int} {n : Nat} (hd : DistinctS f X n) {a b : List Int} (ha : QInter f X Y n a) (hb : QInter f X Y n b) : a = b :=
  through_unique h0 h8 hd ha.1 hb.1 ha.2.1 hb.2.1 fun i hi => by rw [ha.2.2 i hi, hb.2.2 i hi]
theorem interL_eq {f : Int} (h0 : 0 ≤ f) (h8 : f ≤ 8) {X Y : Nat → Int} {n : Nat} (hd : DistinctS f X n) {a : List Int} (h : QInter f X Y n a) : interL f X Y n = a := theL_eq (fun _ _ p q => QInter.unique h0 h8 hd p q) h
theorem lagL_is {f : Int} (h0 : 0 ≤ f) (h8 : f ≤ 8) {X Y : Nat → Int} {n : Nat} (n1 : 1 ≤ n) (hd : DistinctS f X n) (hY : ∀ j, j < n → 0 ≤ Y j ∧ Y j < P f) : QInter f X Y n (lagL f X Y n n) :=
  ⟨lagL_pol h0 h8 X Y n n, lagL_len h0 h8 X Y n1 n, fun i hi => by
    rw [lagL_ev h0 h8 hd hi n (Nat.le_refl _), if_pos hi]
    unfold RS
    exact Int.emod_eq_of_lt (hY i hi).1 (hY i hi).2⟩
theorem interL_lag {f : Int} (h0 : 0 ≤ f) (h8 : f ≤ 8) {X Y : Nat → Int} {n : Nat} (n1 : 1 ≤ n) (hd : DistinctS f X n) (hY : ∀ j, j < n → 0 ≤ Y j ∧ Y j < P f) : interL f X Y n = lagL f X Y n n := interL_eq h0 h8 hd (lagL_is h0 h8 n1 hd hY)
theorem interL_is {f : Int} (h0 : 0 ≤ f) (h8 : f ≤ 8) {X Y : Nat → Int} {n : Nat} (n1 : 1 ≤ n) (hd : DistinctS f X n) (hY : ∀ j, j < n → 0 ≤ Y j ∧ Y j < P f) : QInter f X Y n (interL f X Y n) := by
  rw [interL_lag h0 h8 n1 hd hY]
  exact lagL_is h0 h8 n1 hd hY
/-- What the functions ask. -/
def PtsOk (f : Int) (xs : List Int) : Prop := (0 ≤ f ∧ f ≤ 8) ∧ (1 ≤ xs.length ∧ xs.length ≤ 40) ∧ (∀ j, j < xs.length → 0 ≤ lf xs j ∧ lf xs j < P f) ∧ ∀ i j, i < j → j < xs.length → lf xs i ≠ lf xs j
theorem PtsOk.dist {f : Int} {xs : List Int} (h : PtsOk f xs) : DistinctS f (lf xs) xs.length := distinct_of h.2.2.1 h.2.2.2
def ElsOk (f : Int) (l : List Int) : Prop := ∀ j, j < l.length → 0 ≤ lf l j ∧ lf l j < P f
def InterOk (f : Int) (xs ys : List Int) : Prop := PtsOk f xs ∧ ys.length = xs.length ∧ ElsOk f ys
/-- The word of a message. -/
def encL (f : Int) (xs m : List Int) : List Int := tab xs.length fun i => RS (evN (lf xs i) (lf m) m.length) (P f)
theorem encL_len (f : Int) (xs m : List Int) : (encL f xs m).length = xs.length := tab_len _ _
theorem encL_at {f : Int} {xs m : List Int} {i : Nat} (h : i < xs.length) : lf (encL f xs m) i = RS (evN (lf xs i) (lf m) m.length) (P f) := by unfold encL; rw [lf_tab, if_pos h]
/-- In how many places two lists differ. -/
def difP (a b : List Int) (j : Nat) : Bool := decide (a.length ≤ j) || decide (b.length ≤ j) || (lf a j != lf b j)
def difN (a b : List Int) : Nat := cntN (difP a b) (max a.length b.length)
theorem difN_same {a b : List Int} (h : a.length = b.length) : difN a b = cntN (fun j => lf a j != lf b j) a.length := by
  unfold difN
  rw [← h, Nat.max_self]
  exact cntN_congr fun i hi => by
    unfold difP
    rw [← h]
    simp [show ¬ a.length ≤ i by omega]
/-- A message whose word is near. -/
def QDec (f : Int) (xs ys : List Int) (k : Nat) (m : List Int) : Prop := m.length = k ∧ ElsOk f m ∧ difN (encL f xs m) ys ≤ (xs.length - k) / 2
theorem QDec.unique {f : Int} {xs ys : List Int} {k : Nat} (hp : PtsOk f xs) (hy : ys.length = xs.length) (hk : k ≤ xs.length) {a b : List Int} (ha : QDec f xs ys k a) (hb : QDec f xs ys k b) : a = b := by
  have h0 := hp.1.1
  have h8 := hp.1.2
  have da := ha.2.2
  have db := hb.2.2
  rw [difN_same (by rw [encL_len, hy]), encL_len] at da db
  have hne : cntN (fun j => lf (encL f xs a) j != lf (encL f xs b) j) xs.length ≤ cntN (fun j => lf (encL f xs a) j != lf ys j) xs.length + cntN (fun j => lf (encL f xs b) j != lf ys j) xs.length := cntN_or fun i _ hr => by
    simp only [bne_iff_ne, ne_eq] at hr ⊢
    by_cases e : lf (encL f xs a) i = lf ys i
    · exact .inr fun e2 => hr (e.trans e2.symm)
    · exact .inl e
  have hnot := cntN_not (fun j => lf (encL f xs a) j != lf (encL f xs b) j) xs.length
  obtain ⟨s, s1, s2, _, _⟩ := sel_idx (fun j => !(lf (encL f xs a) j != lf (encL f xs b) j)) xs.length
  have hcnt : k ≤ cntN (fun j => !(lf (encL f xs a) j != lf (encL f xs b) j)) xs.length := by omega
  have hd : DistinctS f (fun j => lf xs (s j)) k := distinct_of (fun j hj => hp.2.2.1 (s j) (s1 j (by omega)).1) fun i j hij hj => by
    have h1 := s2 i j hij (by omega)
    have h2 := (s1 j (by omega)).1
    exact hp.2.2.2 (s i) (s j) h1 h2
  have hv := same_values h0 h8 (A := lf a) (B := lf b) hd fun i hi => by
    have h1 := s1 i (by omega)
    have h2 : lf (encL f xs a) (s i) = lf (encL f xs b) (s i) := by
      have := h1.2
      simp only [Bool.not_eq_true', bne_eq_false_iff_eq] at this
      exact this
    rw [encL_at h1.1, encL_at h1.1, ha.1, hb.1] at h2
    exact h2
  refine list_ext (by rw [ha.1, hb.1]) fun j hj => ?_
  have h1 := hv j (by rw [← ha.1]; exact hj)
  have b1 := ha.2.1 j hj
  have b2 := hb.2.1 j (by rw [hb.1, ← ha.1]; exact hj)
  rwa [Int.emod_eq_of_lt b1.1 b1.2, Int.emod_eq_of_lt b2.1 b2.2] at h1
noncomputable def decL (f : Int) (xs ys : List Int) (k : Nat) : List Int := theL (QDec f xs ys k)
theorem decL_eq {f : Int} {xs ys : List Int} {k : Nat} (hp : PtsOk f xs) (hy : ys.length = xs.length) (hk : k ≤ xs.length) {m : List Int} (h : QDec f xs ys k m) : decL f xs ys k = m := theL_eq (fun _ _ p q => QDec.unique hp hy hk p q) h
/-- The message through k chosen places, with zeros behind. -/
noncomputable def tryL (f : Int) (xs ys : List Int) (k : Nat) (p : Nat → Bool) : List Int := padL (interL f (lf (selL p (lf xs) xs.length)) (lf (selL p (lf ys) xs.length)) k) k
theorem sel_dist {f : Int} {xs : List Int} (hp : PtsOk f xs) (p : Nat → Bool) {k : Nat} (hk : cntN p xs.length = k) : DistinctS f (lf (selL p (lf xs) xs.length)) k := by
  obtain ⟨s, s1, s2, s3, _⟩ := sel_idx p xs.length
  refine distinct_of (fun j hj => ?_) fun i j hij hj => ?_
  · rw [s3 _ j (by omega)]
    exact hp.2.2.1 _ (s1 j (by omega)).1
  · rw [s3 _ j (by omega), s3 _ i (by omega)]
    exact hp.2.2.2 _ _ (s2 i j hij (by omega)) (s1 j (by omega)).1
/-- The message is found at some choice of places. -/
theorem QDec.found {f : Int} {xs ys : List Int} {k : Nat} (hp : PtsOk f xs) (hy : ys.length = xs.length) (_k1 : 1 ≤ k) (hk : k ≤ xs.length) {m : List Int} (h : QDec f xs ys k m) : ∃ s, s < 2 ^ xs.length ∧ cntN (bitP s) xs.length = k ∧ tryL f xs ys k (bitP s) = m := by
  have h0 := hp.1.1
  have h8 := hp.1.2
  have d := h.2.2
  rw [difN_same (by rw [encL_len, hy]), encL_len] at d
  have hnot := cntN_not (fun j => lf (encL f xs m) j != lf ys j) xs.length
  obtain ⟨s, hs, hb⟩ := mask_exists (firstK (fun j => !(lf (encL f xs m) j != lf ys j)) k) xs.length
  have hc : cntN (bitP s) xs.length = k := by
    rw [cntN_congr hb, firstK_cnt]
    omega
  refine ⟨s, hs, hc, ?_⟩
  have hdist := sel_dist hp (bitP s) hc
  obtain ⟨t, t1, _, t3, _⟩ := sel_idx (bitP s) xs.length
  have hpol : Pol f (cutL k (lf m)) := Pol.cut (by have := P_bd h0 h8; omega) fun j hj => h.2.1 j (by rw [h.1]; exact hj)
  have hlen := cutL_le k (lf m)
  have elf : lf (cutL k (lf m)) = lf m := by have := lf_cut_self m; rwa [h.1] at this
  have hQ : QInter f (lf (selL (bitP s) (lf xs) xs.length)) (lf (selL (bitP s) (lf ys) xs.length)) k (cutL k (lf m)) := ⟨hpol, hlen, fun i hi => by
    have h1 := t1 i (by omega)
    have h2 := hb (t i) h1.1
    rw [h1.2] at h2
    have h3 : lf (encL f xs m) (t i) = lf ys (t i) := by
      have h5 : firstK (fun j => !(lf (encL f xs m) j != lf ys j)) k (t i) = true := h2.symm
      unfold firstK at h5
      have h4 : (!(lf (encL f xs m) (t i) != lf ys (t i))) = true := (Bool.and_eq_true_iff.1 h5).1
      simp only [Bool.not_eq_true', bne_eq_false_iff_eq] at h4
      exact h4
    rw [t3 _ i (by omega), t3 _ i (by omega), evL_n hlen, elf]
    rw [encL_at h1.1, h.1] at h3
    exact h3⟩
  unfold tryL
  rw [interL_eq h0 h8 hdist hQ]
  refine list_ext (by rw [padL_len, h.1]) fun j hj => ?_
  rw [lf_padL _ hlen, elf]
end Go.Proofs.YtoonpnfhcmghmabDoor
namespace Go.Proofs.YtoonpnfhcmghmabDoor
noncomputable def blameL (f : Int) (xs ys : List Int) (k : Nat) : List Int := selL (fun i => lf (encL f xs (decL f xs ys k)) i != lf ys i) (fun i => (i : Int)) xs.length
theorem InterOk.is {f : Int} {xs ys : List Int} (h : InterOk f xs ys) : QInter f (lf xs) (lf ys) xs.length (interL f (lf xs) (lf ys) xs.length) :=
  interL_is h.1.1.1 h.1.1.2 h.1.2.1.1 h.1.dist fun j hj => h.2.2 j (by rw [h.2.1]; exact hj)
end Go.Proofs.YtoonpnfhcmghmabDoor
namespace Go.Proofs.YtoonpnfhcmghmabDoor
theorem emm (x p : Int) : x % p % p = x % p := Int.emod_emod_of_dvd _ (Int.dvd_refl _)
theorem van_at {f : Int} (h0 : 0 ≤ f) (h8 : f ≤ 8) (X : Nat → Int) {n i : Nat} (hi : i < n) : evL f (X i) (vanL f X n) = 0 := by
  rw [vanL_ev h0 h8, pdZ_zero hi rfl]
  exact Int.zero_emod _
end Go.Proofs.YtoonpnfhcmghmabDoor
namespace Go.Proofs.YtoonpnfhcmghmabDoor
theorem addL_gt {f : Int} {a b : List Int} (hb : Pol f b) (h : a.length < b.length) : (addL f a b).length = b.length := by
  unfold addL
  rw [cutL_len, Nat.max_eq_right (Nat.le_of_lt h)]
  refine cutN_full (.inr ?_)
  have ht := hb.2
  have hbd := hb.1 (b.length - 1)
  rw [lf_out a (by omega), Int.zero_add]
  unfold RS
  rw [Int.emod_eq_of_lt hbd.1 hbd.2]
  exact ht.resolve_left (by omega)
theorem scaleL_neg_len {f : Int} {b : List Int} (hb : Pol f b) : (scaleL f b (-1)).length = b.length := by
  unfold scaleL
  rw [cutL_len]
  by_cases hz : b.length = 0
  · rw [hz]; rfl
  refine cutN_full (.inr ?_)
  have ht := hb.2.resolve_left hz
  have hbd := hb.1 (b.length - 1)
  unfold RS
  intro e
  have h1 := Int.dvd_of_emod_eq_zero e
  have h2 : P f ∣ lf b (b.length - 1) := by
    rw [Int.mul_neg, Int.mul_one] at h1
    exact (Int.dvd_neg).1 h1
  have := Int.le_of_dvd (by omega) h2
  omega
theorem quo_lenB {f : Int} (h0 : 0 ≤ f) (h8 : f ≤ 8) {a b q r : List Int} (ha : Pol f a) (hb : Pol f b) (hle : b.length ≤ a.length) (h : DivP f a b q r) : q.length + b.length = a.length + 1 := by
  have h1 := div_len h0 h8 hb h
  have hr := h.2.2.1
  by_cases hlt : a.length + 1 ≤ q.length + b.length
  · omega
  · exfalso
    have ht := top_nz h0 h8 ha (by omega)
    rw [h.2.2.2 (a.length - 1), lf_out r (by omega), cv_out (fun j h => lf_out q h) (fun j h => lf_out b h) (by omega)] at ht
    simp at ht
/-- The state of the divisions: two remainders and their factors. -/
def EeaAt (f : Int) (X Y : Nat → Int) (n b : Nat) (r0 r1 v0 v1 : List Int) : Prop :=
  (Pol f r0 ∧ Pol f r1 ∧ Pol f v0 ∧ Pol f v1) ∧ (r1.length < r0.length ∧ v0.length < v1.length ∧ v1.length + r0.length = n + 2 ∧ b ≤ 2 * (r0.length - 1)) ∧ (∀ i, i < n → evL f (X i) r0 = RS (evL f (X i) v0 * Y i) (P f)) ∧ ∀ i, i < n → evL f (X i) r1 = RS (evL f (X i) v1 * Y i) (P f)
theorem evL_one1 {f x : Int} (h0 : 0 ≤ f) (h8 : f ≤ 8) : evL f x [1] = 1 := by
  have hp := P_bd h0 h8
  have e : evN x (lf [1]) 1 = 1 := by
    show 0 + (1 : Int) * x ^ 0 = 1
    rw [Int.pow_zero]; rfl
  show RS (evN x (lf [1]) 1) (P f) = 1
  rw [e]
  exact Int.emod_eq_of_lt (by omega) (by omega)
theorem evL_nil (f x : Int) : evL f x [] = 0 := by simp [evL, evN, sumN, RS]
theorem EeaAt.start {f : Int} (h0 : 0 ≤ f) (h8 : f ≤ 8) {X Y : Nat → Int} {n b : Nat} {c : List Int} (hb : b ≤ 2 * n) (hY : ∀ j, j < n → 0 ≤ Y j ∧ Y j < P f) (h : QInter f X Y n c) : EeaAt f X Y n b (vanL f X n) c [] [1] := by
  have hl := vanL_len h0 h8 X n
  have h1 := h.2.1
  refine ⟨⟨vanL_pol h0 h8 X n, h.1, Pol.nil (P_pos h0 h8), pol_oneL h0 h8⟩, ⟨by omega, by simp, by rw [hl]; simp; omega, by omega⟩, fun i hi => ?_, fun i hi => ?_⟩
  · rw [van_at h0 h8 X hi, evL_nil, Int.zero_mul]
    exact (Int.zero_emod _).symm
  · rw [h.2.2 i hi, evL_one1 h0 h8, Int.one_mul]
    exact (Int.emod_eq_of_lt (hY i hi).1 (hY i hi).2).symm
theorem EeaAt.step {f : Int} (h0 : 0 ≤ f) (h8 : f ≤ 8) {X Y : Nat → Int} {n b : Nat} {r0 r1 v0 v1 q r : List Int} (h : EeaAt f X Y n b r0 r1 v0 v1) (_hz : r1.length ≠ 0) (hb : b ≤ 2 * (r1.length - 1)) (hd : DivP f r0 r1 q r) : EeaAt f X Y n b r1 r v1 (addL f v0 (scaleL f (mulL f q v1) (-1))) := by
  obtain ⟨⟨p1, p2, p3, p4⟩, ⟨l1, l2, l3, l4⟩, e1, e2⟩ := h
  have hq := quo_lenB h0 h8 p1 p2 (Nat.le_of_lt l1) hd
  have hm := mulL_len h0 h8 hd.1 p4 (by omega) (by omega)
  have hs := scaleL_neg_len (pol_mulL h0 h8 q v1)
  have ha := addL_gt (a := v0) (pol_scaleL h0 h8 (mulL f q v1) (-1)) (by omega)
  refine ⟨⟨p2, hd.2.1, p4, pol_addL h0 h8 _ _⟩, ⟨hd.2.2.1, by omega, by omega, hb⟩, e2, fun i hi => ?_⟩
  have h1 : evL f (X i) (addL f (mulL f q r1) r) = evL f (X i) r0 := by rw [div_back h0 h8 p1 hd]
  rw [evL_add, evL_mul, e1 i hi, e2 i hi] at h1
  rw [evL_add, evL_scale, evL_mul]
  have hb2 : 0 ≤ evL f (X i) r ∧ evL f (X i) r < P f := RS_bd (P_pos h0 h8)
  obtain ⟨R, hR⟩ : ∃ R, evL f (X i) r = R := ⟨_, rfl⟩
  obtain ⟨Q, hQ⟩ : ∃ Q, evL f (X i) q = Q := ⟨_, rfl⟩
  obtain ⟨U, hU⟩ : ∃ U, evL f (X i) v0 = U := ⟨_, rfl⟩
  obtain ⟨V, hV⟩ : ∃ V, evL f (X i) v1 = V := ⟨_, rfl⟩
  rw [hR] at hb2
  rw [hR, hQ, hU, hV] at h1
  rw [hR, hQ, hU, hV]
  obtain ⟨y, hy⟩ : ∃ y, Y i = y := ⟨_, rfl⟩
  rw [hy] at h1 ⊢
  unfold RS at h1 ⊢
  have k1 : (Q * (V * y % P f) % P f + R) % P f = (Q * (V * y) + R) % P f := emod_add_congr (by rw [emm]; exact emod_mul_congr rfl (emm _ _)) rfl
  rw [k1] at h1
  have k2 : ((U + Q * V % P f * -1 % P f) % P f * y) % P f = (U * y - Q * (V * y)) % P f := by
    have k3 : ((U + Q * V % P f * -1 % P f) % P f * y) % P f = ((U + Q * V * -1) * y) % P f := by
      refine emod_mul_congr ?_ rfl
      rw [emm]
      refine emod_add_congr rfl ?_
      rw [emm]
      exact emod_mul_congr (emm _ _) rfl
    rw [k3, Int.add_mul, Int.mul_neg, Int.mul_one, Int.neg_mul, Int.mul_assoc]
    rfl
  rw [k2]
  have k4 : R % P f = (U * y - Q * (V * y)) % P f := by
    have k5 : (Q * (V * y) + R - Q * (V * y)) % P f = (U * y - Q * (V * y)) % P f := emod_sub_congr h1 rfl
    rw [← k5]
    congr 1
    omega
  rw [← k4]
  exact (Int.emod_eq_of_lt hb2.1 hb2.2).symm
theorem msg_pol {f : Int} {m : List Int} {k : Nat} (h0 : 0 ≤ f) (h8 : f ≤ 8) (hm : m.length = k) (he : ElsOk f m) : Pol f (cutL k (lf m)) := Pol.cut (P_pos h0 h8) fun j hj => he j (by rw [hm]; exact hj)
theorem lf_cut_k {m : List Int} {k : Nat} (hm : m.length = k) : lf (cutL k (lf m)) = lf m := by
  subst hm
  exact lf_cut_self m
theorem evL_msg {f x : Int} {m : List Int} {k : Nat} (hm : m.length = k) : evL f x (cutL k (lf m)) = RS (evN x (lf m) m.length) (P f) := by
  rw [evL_n (cutL_le k (lf m)), lf_cut_k hm, hm]
/-- Where a message is near, the remainder is its multiple by the factor. -/
theorem EeaAt.found {f : Int} {xs ys : List Int} {k : Nat} (hp : PtsOk f xs) (hy : ys.length = xs.length) (_k1 : 1 ≤ k) (hk : k ≤ xs.length) {r0 r1 v0 v1 m : List Int} (h : EeaAt f (lf xs) (lf ys) xs.length (xs.length + k) r0 r1 v0 v1) (hend : 2 * (r1.length - 1) < xs.length + k) (hm : QDec f xs ys k m) : r1 = mulL f v1 (cutL k (lf m)) := by
  have h0 := hp.1.1
  have h8 := hp.1.2
  obtain ⟨⟨p1, p2, p3, p4⟩, ⟨l1, l2, l3, l4⟩, e1, e2⟩ := h
  have d := hm.2.2
  rw [difN_same (by rw [encL_len, hy]), encL_len] at d
  have hnot := cntN_not (fun j => lf (encL f xs m) j != lf ys j) xs.length
  obtain ⟨s, s1, s2, _, _⟩ := sel_idx (fun j => !(lf (encL f xs m) j != lf ys j)) xs.length
  obtain ⟨N, hN⟩ : ∃ N, cntN (fun j => !(lf (encL f xs m) j != lf ys j)) xs.length = N := ⟨_, rfl⟩
  rw [hN] at hnot s1 s2
  have hd : DistinctS f (fun j => lf xs (s j)) N := distinct_of (fun j hj => hp.2.2.1 (s j) (s1 j (by omega)).1) fun i j hij hj => by
    have h1 := s2 i j hij (by omega)
    have h2 := (s1 j (by omega)).1
    exact hp.2.2.2 (s i) (s j) h1 h2
  have lm := cutL_le k (lf m)
  have lp := mulL_le f v1 (cutL k (lf m))
  refine through_unique h0 h8 hd p2 (pol_mulL h0 h8 _ _) (by omega) (by omega) fun i hi => ?_
  have h1 := s1 i hi
  have h3 : lf (encL f xs m) (s i) = lf ys (s i) := by
    have := h1.2
    simp only [Bool.not_eq_true', bne_eq_false_iff_eq] at this
    exact this
  rw [encL_at h1.1] at h3
  show evL f (lf xs (s i)) r1 = evL f (lf xs (s i)) (mulL f v1 (cutL k (lf m)))
  rw [e2 (s i) h1.1, evL_mul, evL_msg hm.1, h3]
theorem mul_div {f : Int} (h0 : 0 ≤ f) (h8 : f ≤ 8) {v c : List Int} (hc : Pol f c) (hz : v.length ≠ 0) : DivP f (mulL f v c) v c [] := by
  refine ⟨hc, Pol.nil (P_pos h0 h8), by simp; omega, fun j => ?_⟩
  rw [lf_mulL, emm, cv_comm, lf_out [] (Nat.zero_le _), Int.add_zero]
/-- The quotient, cut and padded, is the message. -/
theorem EeaAt.message {f : Int} {xs ys : List Int} {k : Nat} (hp : PtsOk f xs) (hy : ys.length = xs.length) (k1 : 1 ≤ k) (hk : k ≤ xs.length) {r0 r1 v0 v1 m q r : List Int} (h : EeaAt f (lf xs) (lf ys) xs.length (xs.length + k) r0 r1 v0 v1) (hend : 2 * (r1.length - 1) < xs.length + k) (hm : QDec f xs ys k m) (hd : DivP f r1 v1 q r) : padL q k = m := by
  have h0 := hp.1.1
  have h8 := hp.1.2
  have e := h.found hp hy k1 hk hend hm
  have hv := h.2.1.2.1
  rw [e] at hd
  have hq := (DivP.unique h0 h8 h.1.2.2.2 hd (mul_div h0 h8 (msg_pol h0 h8 hm.1 hm.2.1) (by omega))).1
  rw [hq]
  refine list_ext (by rw [padL_len, hm.1]) fun j hj => ?_
  rw [lf_padL _ (cutL_le k (lf m)), lf_cut_k hm.1]
/-- The places where two lists differ. -/
def dfL (a b : List Int) : List Int := selL (difP a b) (fun i => (i : Int)) (max a.length b.length)
theorem difP_comm (a b : List Int) : difP a b = difP b a := funext fun j => by
  unfold difP
  rw [Bool.or_comm (decide (a.length ≤ j)), bne_comm]
theorem difN_comm (a b : List Int) : difN a b = difN b a := by unfold difN; rw [difP_comm, Nat.max_comm]
theorem dfL_enc {f : Int} {xs ys m : List Int} (hy : ys.length = xs.length) : dfL ys (encL f xs m) = selL (fun i => lf (encL f xs m) i != lf ys i) (fun i => (i : Int)) xs.length := by
  unfold dfL
  rw [encL_len, hy, Nat.max_self]
  refine selL_congr _ fun i hi => ?_
  unfold difP
  rw [encL_len, hy, bne_comm]
  simp [show ¬ xs.length ≤ i by omega]
theorem padL_els {f : Int} {q : List Int} {k : Nat} (hq : Pol f q) : ElsOk f (padL q k) := fun j hj => by
  rw [padL_len] at hj
  unfold padL
  rw [lf_tab, if_pos hj]
  exact hq.1 j
/-- What the divisions find: the message, or none that is near. -/
theorem EeaAt.answer {f : Int} {xs ys : List Int} {k : Nat} (hp : PtsOk f xs) (hy : ys.length = xs.length) (k1 : 1 ≤ k) (hk : k ≤ xs.length) {r0 r1 v0 v1 q r : List Int} (h : EeaAt f (lf xs) (lf ys) xs.length (xs.length + k) r0 r1 v0 v1) (hend : 2 * (r1.length - 1) < xs.length + k) (hd : DivP f r1 v1 q r) :
    (difN ys (encL f xs (padL q k)) ≤ (xs.length - k) / 2 → QDec f xs ys k (padL q k) ∧ decL f xs ys k = padL q k ∧ dfL ys (encL f xs (padL q k)) = blameL f xs ys k) ∧ (¬ difN ys (encL f xs (padL q k)) ≤ (xs.length - k) / 2 → ¬ ∃ m, QDec f xs ys k m) := by
  refine ⟨fun hn => ?_, fun hn => ?_⟩
  · have hq : QDec f xs ys k (padL q k) := ⟨padL_len _ _, padL_els hd.1, by rw [difN_comm]; exact hn⟩
    have he := decL_eq hp hy hk hq
    refine ⟨hq, he, ?_⟩
    rw [dfL_enc hy]
    unfold blameL
    rw [he]
  · rintro ⟨m, hm⟩
    have e := h.message hp hy k1 hk hend hm hd
    rw [e] at hn
    have := hm.2.2
    rw [difN_comm] at this
    exact hn this
end Go.Proofs.YtoonpnfhcmghmabDoor
namespace Go.Proofs.YtoonpnfhcmghmabDoor
open Go.RowKit
/-- A node at block b: its field, its product at block g, its branches. -/
def NodeW (w : World) (b : Nat) (f : Int) (g n : Nat) (pl pr : Option Addr) : Prop :=
  w.cell? ⟨b, 0, none⟩ = some (.int .i64 f) ∧ w.cell? ⟨b, 1, none⟩ = some (.slice (some ⟨g, 0, none⟩) (n + 1) (n + 1)) ∧ w.cell? ⟨b, 2, none⟩ = some (.pointer pl) ∧ w.cell? ⟨b, 3, none⟩ = some (.pointer pr)
theorem NodeW.lt {w : World} {b g n : Nat} {f : Int} {pl pr : Option Addr} (h : NodeW w b f g n pl pr) : b < w.heap.size := block_lt_of_cell h.1
theorem NodeW.keep {w w' : World} {b g n : Nat} {f : Int} {pl pr : Option Addr} (h : NodeW w b f g n pl pr) {N : Nat} (hb : Below N w w') (hN : b < N) : NodeW w' b f g n pl pr :=
  ⟨(hb.cell (p := ⟨b, 0, none⟩) hN).trans h.1, (hb.cell (p := ⟨b, 1, none⟩) hN).trans h.2.1, (hb.cell (p := ⟨b, 2, none⟩) hN).trans h.2.2.1, (hb.cell (p := ⟨b, 3, none⟩) hN).trans h.2.2.2⟩
/-- A tree over the points X 0, .., X (n - 1), at p; d bounds its depth. -/
def TreeW (f : Int) (w : World) : Nat → Option Addr → (Nat → Int) → Nat → Prop
  | 0, _, _, _ => False
  | d + 1, p, X, n => ∃ b g pl pr, p = some ⟨b, 0, none⟩ ∧ NodeW w b f g n pl pr ∧ Own w g (n + 1) (lf (vanL f X n)) ∧
      ((n = 1 ∧ pl = none ∧ pr = none) ∨ ∃ m k, n = m + k ∧ 1 ≤ m ∧ 1 ≤ k ∧ TreeW f w d pl X m ∧ TreeW f w d pr (fun j => X (m + j)) k)
theorem TreeW.keep {f : Int} {w w' : World} (hb : Below w.heap.size w w') : ∀ {d : Nat} {p : Option Addr} {X : Nat → Int} {n : Nat}, TreeW f w d p X n → TreeW f w' d p X n
  | 0, _, _, _, h => h
  | _ + 1, _, _, _, ⟨b, g, pl, pr, h1, h2, h3, h4⟩ => ⟨b, g, pl, pr, h1, h2.keep hb h2.lt, h3.keep hb, h4.imp id fun ⟨m, k, e, m1, k1, hl, hr⟩ => ⟨m, k, e, m1, k1, TreeW.keep hb hl, TreeW.keep hb hr⟩⟩
theorem TreeW.more {f : Int} {w : World} : ∀ {d d' : Nat} {p : Option Addr} {X : Nat → Int} {n : Nat}, TreeW f w d p X n → d ≤ d' → TreeW f w d' p X n
  | 0, _, _, _, _, h, _ => absurd h (by intro h; exact h)
  | d + 1, 0, _, _, _, _, h2 => absurd h2 (by omega)
  | d + 1, d' + 1, _, _, _, ⟨b, g, pl, pr, h1, h2, h3, h4⟩, hd => ⟨b, g, pl, pr, h1, h2, h3, h4.imp id fun ⟨m, k, e, m1, k1, hl, hr⟩ => ⟨m, k, e, m1, k1, hl.more (by omega), hr.more (by omega)⟩⟩
end Go.Proofs.YtoonpnfhcmghmabDoor
namespace Go.Proofs.YtoonpnfhcmghmabDoor
open Go.RowKit
theorem OwnV.grown {g : Nat} {w w' : World} {g2 n cap : Nat} {F : Nat → Int} (h : OwnV w g2 n cap F) (hg : w.grownBy w' (some g)) (hne : g2 ≠ g) : OwnV w' g2 n cap F := by
  obtain ⟨V, h1, h2, h3⟩ := h
  have hlt := OwnV.lt ⟨V, h1, h2, h3⟩
  exact ⟨V, World.rowIs.of_block h1 (hg.block g2 hlt (fun e => by injection e with e; exact hne e)), h2, h3⟩
/-- A drawn list, whose row may still be written. -/
def ZVal (g : Nat) (w : World) (n : Nat) (v : Value) (w' : World) : Prop := ∃ l : List Int, l.length ≤ n ∧ (∃ B, g < B ∧ w.heap.size ≤ B ∧ w'.ownsRow B 3 1 v l.length (xsF (lf l) l.length)) ∧ Cur g w' ∧ w.grownBy w' (some g)
theorem ZVal.of {g : Nat} {w w' : World} {n : Nat} {v : Value} (hB : g < w.heap.size) (h : ZAt g w w' v n) : ZVal g w n v w' := by
  obtain ⟨⟨F, ho⟩, hc, hg, hs⟩ := h
  exact ⟨tab n F, by rw [tab_len]; exact Nat.le_refl _, ⟨w.heap.size, hB, Nat.le_refl _, owns_to_tab ho⟩, hc, hg⟩
theorem ZVal.grown {g : Nat} {w w1 w2 : World} {n : Nat} {v : Value} (h : ZVal g w n v w1) (hg : w1.grownBy w2 (some g)) (hc : Cur g w2) : ZVal g w n v w2 := by
  obtain ⟨l, hl, ⟨B, hB, hB2, ho⟩, _, hg1⟩ := h
  exact ⟨l, hl, ⟨B, hB, hB2, ho.kept hg (zown_ne hB ho)⟩, hc, hg1.trans hg⟩
/-- The value is a slice: empty, or a row that can be written. -/
theorem ZVal.cases {g : Nat} {w w1 : World} {n : Nat} {v : Value} (h : ZVal g w n v w1) : ∃ (l : List Int) (a : Option Addr) (cap : Nat), v = .slice a l.length cap ∧ l.length ≤ n ∧ (l.length = 0 ∨ ∃ g2, a = some ⟨g2, 0, none⟩ ∧ g2 ≠ g ∧ w.heap.size ≤ g2 ∧ OwnV w1 g2 l.length cap (lf l)) := by
  obtain ⟨l, hl, ⟨B, hB, hB2, ho⟩, hc, hg⟩ := h
  by_cases hz : l.length = 0
  · obtain ⟨a, cap, rfl, hcap, hs⟩ := SrcO.of ho hB
    exact ⟨l, a, cap, rfl, hl, .inl hz⟩
  · obtain ⟨g2, cap, rfl, hg2, ho2⟩ := OwnV.of_owns ho hz
    exact ⟨l, _, cap, rfl, hl, .inr ⟨g2, rfl, by omega, by omega, ho2⟩⟩
end Go.Proofs.YtoonpnfhcmghmabDoor
namespace Go.Proofs.YtoonpnfhcmghmabDoor
open Go.RowKit
/-- A list in memory of its own, in a row that may have room. -/
def OwnM (w : World) (B : Nat) (a : Option Addr) (l : List Int) (cap : Nat) : Prop :=
  (a = none ∧ cap = 0 ∧ l.length = 0) ∨ ∃ g, a = some ⟨g, 0, none⟩ ∧ B ≤ g ∧ OwnV w g l.length cap (lf l)
theorem OwnM.src {w : World} {B : Nat} {a : Option Addr} {l : List Int} {cap : Nat} (h : OwnM w B a l cap) : Src w a l.length (lf l) := by
  rcases h with ⟨_, _, h⟩ | ⟨g, rfl, _, h⟩
  · exact .inl h
  · exact h.src
theorem OwnM.keep {w w' : World} {B : Nat} {a : Option Addr} {l : List Int} {cap : Nat} (h : OwnM w B a l cap) (hb : Below w.heap.size w w') : OwnM w' B a l cap :=
  h.imp id fun ⟨g, h1, h2, h3⟩ => ⟨g, h1, h2, h3.keep hb⟩
theorem own_to_v {w : World} {g n : Nat} {F : Nat → Int} (h : Own w g n F) : OwnV w g n n F := ⟨_, h, Nat.le_refl _, fun _ _ => rfl⟩
theorem OwnA.m {w : World} {B : Nat} {a : Option Addr} {l : List Int} {cap : Nat} (h : OwnA w B a l cap) : OwnM w B a l cap := by
  rcases h with h | ⟨g, rfl, rfl, hB, h⟩
  · exact .inl h
  · exact .inr ⟨g, rfl, hB, own_to_v h⟩
theorem v_of_block {w w' : World} {g n cap : Nat} {F : Nat → Int} (h : OwnV w g n cap F) (hb : w'.heap[g]? = w.heap[g]?) : OwnV w' g n cap F := by
  obtain ⟨V, h1, h2, h3⟩ := h
  exact ⟨V, World.rowIs.of_block h1 hb, h2, h3⟩
theorem OwnM.after {w w' : World} {B cap : Nat} {a a2 : Option Addr} {l : List Int} (h : OwnM w B a2 l cap) (hg : Grow w w' a) (hl : Lies a B) : OwnM w' B a2 l cap := by
  rcases hg with rfl | ⟨g, rfl, hg⟩
  · exact h
  · have := hl _ rfl
    refine h.imp id fun ⟨g2, h1, h2, h3⟩ => ⟨g2, h1, h2, v_of_block h3 (hg.block g2 h3.lt (fun e => ?_))⟩
    injection e with e
    have : g < B := this
    omega
def OwnLM (w : World) (l : List Int) (e : Ending) (w' : World) : Prop := ∃ a cap, e = .returned (.slice a l.length cap) ∧ OwnM w' w.heap.size a l cap ∧ Below w.heap.size w w'
theorem OwnL.m {w w' : World} {l : List Int} {e : Ending} (h : OwnL w l e w') : OwnLM w l e w' := by
  obtain ⟨a, cap, h1, h2, h3⟩ := h
  exact ⟨a, cap, h1, h2.m, h3⟩
theorem OwnsL.m {w w' : World} {l : List Int} {e : Ending} (h : OwnsL w l e w') : OwnLM w l e w' := by
  obtain ⟨v, rfl, ho, hb⟩ := h
  by_cases hz : l.length = 0
  · rcases ho.2 with ⟨rfl, _⟩ | ⟨g, cap, cur, rfl, hg, hh, hc, hm, hs, _⟩
    · exact ⟨none, 0, by rw [hz], .inl ⟨rfl, rfl, hz⟩, hb⟩
    · refine ⟨some ⟨g, 0, none⟩, cap, rfl, .inr ⟨g, rfl, hg, fun j => (cur[j]?).getD .nilIface, ⟨cur, hh, by omega, fun j hj => ?_⟩, by omega, fun j hj => by omega⟩, hb⟩
      have : j < cur.size := by omega
      simp [this]
  · obtain ⟨g, cap, rfl, hg, hv⟩ := OwnV.of_owns ho hz
    exact ⟨some ⟨g, 0, none⟩, cap, rfl, .inr ⟨g, rfl, hg, hv⟩, hb⟩
end Go.Proofs.YtoonpnfhcmghmabDoor
namespace Go.Proofs.YtoonpnfhcmghmabDoor
open Go.RowKit
theorem two_start8 (w : World) (u v u2 v2 : Value) (t t2 : TypeId) : TwoB w.heap.size u v t ((w.alloc (.cells #[u, v] t)).alloc (.cells #[u2, v2] t2)) ∧ TwoB (w.heap.size + 1) u2 v2 t2 ((w.alloc (.cells #[u, v] t)).alloc (.cells #[u2, v2] t2)) ∧ Below w.heap.size w ((w.alloc (.cells #[u, v] t)).alloc (.cells #[u2, v2] t2)) := by
  have hz : (w.alloc (.cells #[u, v] t)).heap.size = w.heap.size + 1 := by simp
  have hb1 := below_alloc (w.alloc (.cells #[u, v] t)) (.cells #[u2, v2] t2)
  have t1 := twoB_new (w.alloc (.cells #[u, v] t)) u2 v2 t2
  rw [hz] at t1
  exact ⟨(twoB_new w u v t).keep hb1 (by omega), t1, below_up (below_alloc w _) hb1 (by omega)⟩
set_option maxRecDepth 100000 in
set_option maxHeartbeats 3200000 in
theorem inverses8_c (f : Int) (a : Option Addr) (l : List Int) (cap : Nat) (w : World) (ht : Tab w) (h08 : 0 ≤ f ∧ f ≤ 8) (hn : l.length ≤ 512) (hs : Src w a l.length (lf l)) : Calls Tryd.prog 49 #[.agg #[.int .i64 f, .slice a l.length cap]] w (OwnVec f w (bivL f l)) := by
  have HPW : Hid (∀ (W : World), Below w.heap.size w W → Calls Tryd.prog 81 #[.int .i64 f, .slice a l.length cap] W (OwnG W (bivL f l))) := Lib.hid fun W hb => (inverses_c f a l.length cap (lf l) W (ht.below hb) h08.1 h08.2 (by omega) (hs.keep hb)).mono fun e W' ⟨he, ho, hb2⟩ => by
    rw [he]
    exact OwnG.of_own ho (bivL_len _ _).symm (Nat.le_refl _) (fun j hj => by unfold bivL; rw [lf_tab, if_pos hj]) hb2
  clear hs ht hn
  generalize bivL f l = R at *
  generalize l.length = n at *
  obtain ⟨t0, t1, hb2⟩ := two_start8 w (.int .i64 f) (.slice a n cap) (.int .i64 0) (.slice none 0 0) 47 47
  have HB0 := Lib.hid t0
  have HB1 := Lib.hid t1
  clear t0 t1
  go_enter Tryd.func49, Tryd.ntmps49
  go_wp2_with fail
  generalize ((w.alloc (.cells #[.int .i64 f, .slice a n cap] 47)).alloc (.cells #[.int .i64 0, .slice none 0 0] 47)) = W0 at *
  have k3 := HB0.out.c
  have k3d : TwoC w.heap.size (.int .i64 f) (.slice a n cap) W0.drew := k3.drew
  have c3d : Below w.heap.size w W0.drew := hb2.drew
  have l3d : w.heap.size < W0.drew.heap.size := HB0.out.lt
  have r3d : TwoB (w.heap.size + 1) (.int .i64 0) (.slice none 0 0) 47 W0.drew := HB1.out
  have HPP := Lib.hid (HPW.out _ c3d)
  clear HPW
  go_region_held3 (fun W => W.cell? ⟨w.heap.size, 0, none⟩ = some (.int .i64 f) ∧ W.cell? ⟨w.heap.size, 1, none⟩ = some (.slice a n cap))
    (first | exact k3 | exact k3d | exact k4 | exact k4.store2 _ _ (by omega) | go_keep)
    (first
      | (go_at_call 81; refine HPP.out.mono ?_; rintro e w4 ⟨g4, rfl, hg4, o4, b4⟩; have k4 := k3d.keep b4 l3d; have c4 := below_up c3d b4 c3d.size; have r4 := r3d.keep b4 r3d.lt; have rr0 := r4.c.1; have rr1 := r4.c.2; have rf0 := heap_frozen (j := 0) r4; have rf1 := heap_frozen (j := 1) r4; have ne4 : g4 ≠ w.heap.size + 1 := (by (have := r3d.lt; omega)); have HO4 := Lib.hid o4))
  obtain ⟨e0, e1⟩ := store_cells (u := .int .i64 f) (v := .slice (some ⟨g4, 0, none⟩) R.length R.length) r4
  have HF : Hid (OwnVec f w R (.returned (.agg #[.int .i64 f, .slice (some ⟨g4, 0, none⟩) R.length R.length])) ((w4.setCell ⟨w.heap.size + 1, 0, none⟩ (.int .i64 f)).setCell ⟨w.heap.size + 1, 1, none⟩ (.slice (some ⟨g4, 0, none⟩) R.length R.length))) := Lib.hid ⟨g4, rfl, Nat.le_trans c3d.size hg4, own_store HO4.out ne4, below_store c4 (by omega)⟩
  clear k3 k3d k4 r4 rr0 rr1 rf0 rf1 HO4 c4 c3d b4 r3d
  generalize ((w4.setCell ⟨w.heap.size + 1, 0, none⟩ (.int .i64 f)).setCell ⟨w.heap.size + 1, 1, none⟩ (.slice (some ⟨g4, 0, none⟩) R.length R.length)) = W5 at *
  go_wp2
  refine bodyPost_ret (v := .agg #[.int .i64 f, .slice (some ⟨g4, 0, none⟩) R.length R.length]) (by simp [results, Tryd.results49, go_sem, *]) rfl ?_
  exact HF.out
/-- Two structs' cells. -/
def FourT (s p : Nat) (u v x y : Value) (W : World) : Prop := W.cell? ⟨s, 0, none⟩ = some u ∧ W.cell? ⟨s, 1, none⟩ = some v ∧ W.cell? ⟨p, 0, none⟩ = some x ∧ W.cell? ⟨p, 1, none⟩ = some y
theorem FourT.mk {s p : Nat} {u v x y : Value} {W : World} (h : TwoC s u v W) (k : TwoC p x y W) : FourT s p u v x y W := ⟨h.1, h.2, k.1, k.2⟩
theorem FourT.keep {s p b : Nat} {u v x y : Value} {W W' : World} (k : FourT s p u v x y W) (hb : Below b W W') (h1 : s < b) (h2 : p < b) : FourT s p u v x y W' := by
  have h := TwoC.keep ⟨k.1, k.2.1⟩ hb h1
  have h' := TwoC.keep ⟨k.2.2.1, k.2.2.2⟩ hb h2
  exact ⟨h.1, h.2, h'.1, h'.2⟩
theorem FourT.store2 {s p q : Nat} {u v x y : Value} {W : World} (k : FourT s p u v x y W) (x2 y2 : Value) (h1 : s ≠ q) (h2 : p ≠ q) : FourT s p u v x y ((W.setCell ⟨q, 0, none⟩ x2).setCell ⟨q, 1, none⟩ y2) :=
  ⟨by rw [cell_set8 h1, cell_set8 h1]; exact k.1, by rw [cell_set8 h1, cell_set8 h1]; exact k.2.1, by rw [cell_set8 h2, cell_set8 h2]; exact k.2.2.1, by rw [cell_set8 h2, cell_set8 h2]; exact k.2.2.2⟩
/-- Half way: a third struct is made. -/
def MidV (w wr : World) (p g n cap : Nat) (f : Int) (a : Option Addr) (X : List Int) (t : TypeId) : Prop :=
  TwoC w.heap.size (.int .i64 f) (.slice a n cap) wr ∧ TwoB (w.heap.size + 1) (.int .i64 0) (.slice none 0 0) t wr ∧ TwoC p (.int .i64 f) (.slice (some ⟨g, 0, none⟩) X.length X.length) wr ∧ p < wr.heap.size ∧ w.heap.size + 1 < p ∧ g ≠ w.heap.size + 1 ∧ Own wr g X.length (lf X) ∧ Below w.heap.size w wr
theorem MidV.a {w w2 : World} {g n cap : Nat} {f : Int} {a : Option Addr} {X : List Int} {t t2 : TypeId} (k : TwoC w.heap.size (.int .i64 f) (.slice a n cap) w2) (r : TwoB (w.heap.size + 1) (.int .i64 0) (.slice none 0 0) t w2) (hg : g ≠ w.heap.size + 1) (ho : Own w2 g X.length (lf X)) (hb : Below w.heap.size w w2) :
    MidV w (w2.alloc (.cells #[.int .i64 f, .slice (some ⟨g, 0, none⟩) X.length X.length] t2)) w2.heap.size g n cap f a X t := by
  have hb2 := below_alloc w2 (.cells #[.int .i64 f, .slice (some ⟨g, 0, none⟩) X.length X.length] t2)
  have hr := r.lt
  exact ⟨k.keep hb2 (by omega), r.keep hb2 hr, (twoB_new w2 _ _ t2).c, by simp, hr, hg, ho.keep hb2, below_up hb hb2 hb.size⟩
theorem MidV.b {w w2 : World} {p g n cap : Nat} {f : Int} {a : Option Addr} {X : List Int} {t t2 : TypeId} {x y : Value} (q : TwoB p x y t2 w2) (hp : w.heap.size + 1 < p) (hgp : g ≠ p) (k : TwoC w.heap.size (.int .i64 f) (.slice a n cap) w2) (r : TwoB (w.heap.size + 1) (.int .i64 0) (.slice none 0 0) t w2) (hg : g ≠ w.heap.size + 1) (ho : Own w2 g X.length (lf X)) (hb : Below w.heap.size w w2) :
    MidV w ((w2.setCell ⟨p, 0, none⟩ (.int .i64 f)).setCell ⟨p, 1, none⟩ (.slice (some ⟨g, 0, none⟩) X.length X.length)) p g n cap f a X t :=
  ⟨k.store2 _ _ (by omega), ((Below.heap_setCell _ ⟨p, 1, none⟩ _ _ (by show w.heap.size + 1 ≠ p; omega)).trans (Below.heap_setCell _ ⟨p, 0, none⟩ _ _ (by show w.heap.size + 1 ≠ p; omega))).trans r, store_cells q, by have := q.lt; simpa using this, hp, hg, own_store ho hgp, below_store hb (by omega)⟩
set_option maxRecDepth 100000 in
set_option maxHeartbeats 6400000 in
theorem oddValues_c (f : Int) (a : Option Addr) (l : List Int) (cap : Nat) (w : World) (ht : Tab w) (h : OpenOk f l) (hs : Src w a l.length (lf l)) : Calls Tryd.prog 43 #[.agg #[.int .i64 f, .slice a l.length cap]] w (OwnVec f w (ovL f l)) := by
  have hroot := root_bd h.has.1
  have HSR : Hid (∀ W, Below w.heap.size w W → Calls Tryd.prog 76 #[.agg #[.int .i64 f, .slice a l.length cap]] W (IntP W (zL f l))) := Lib.hid fun W hb => splitRoot_c f a l cap W (ht.below hb) h
  have HWG : Hid (∀ W, Below w.heap.size w W → Calls Tryd.prog 75 #[.agg #[.int .i64 f, .slice a l.length cap], .int .i64 (zL f l)] W (OwnVec f W (ptwL f l (pwL f (zL f l) l.length)))) := Lib.hid fun W hb => weighted_c f (zL f l) a l cap W (ht.below hb) h.1 ⟨by unfold zL; omega, hroot.2⟩ (hs.keep hb)
  have hv : VecOk f (ptwL f l (pwL f (zL f l) l.length)) := h.1.ptw
  have HTR : Hid (∀ g W, Below w.heap.size w W → Own W g (ptwL f l (pwL f (zL f l) l.length)).length (lf (ptwL f l (pwL f (zL f l) l.length))) → Calls Tryd.prog 77 #[.int .i64 f, .slice (some ⟨g, 0, none⟩) (ptwL f l (pwL f (zL f l) l.length)).length (ptwL f l (pwL f (zL f l) l.length)).length] W (OwnG W (ovL f l))) := Lib.hid fun g W hb ho => by
    have := transform_c f (some ⟨g, 0, none⟩) _ (ptwL f l (pwL f (zL f l) l.length)).length W (ht.below hb) hv ho.src
    rwa [ov_by_fwd h] at this
  clear hs h ht hv hroot
  generalize ovL f l = R at *
  generalize ptwL f l (pwL f (zL f l) l.length) = X at *
  generalize zL f l = z at *
  generalize l.length = n at *
  obtain ⟨t0, t1, hb2⟩ := two_start8 w (.int .i64 f) (.slice a n cap) (.int .i64 0) (.slice none 0 0) 49 47
  have HB0 := Lib.hid t0
  have HB1 := Lib.hid t1
  clear t0 t1
  go_enter Tryd.func43, Tryd.ntmps43
  go_wp2_with fail
  generalize ((w.alloc (.cells #[.int .i64 f, .slice a n cap] 49)).alloc (.cells #[.int .i64 0, .slice none 0 0] 47)) = W0 at *
  go_cut [3] from 4 (fun p wr => ∃ p3 g3, p = .pointer (some ⟨p3, 0, none⟩) ∧ MidV w wr p3 g3 n cap f a X 47)
  case first =>
    have kb := HB0.out.c
    have k0 : TwoC w.heap.size (.int .i64 f) (.slice a n cap) W0.drew := kb.drew
    have hbd : Below w.heap.size w W0.drew := hb2.drew
    have r0 : TwoB (w.heap.size + 1) (.int .i64 0) (.slice none 0 0) 47 W0.drew := HB1.out
    have hl0 : w.heap.size + 1 < W0.drew.heap.size := r0.lt
    have hba := below_alloc W0 (.cells #[.int .i64 0, .slice none 0 0] 47)
    have hlb : w.heap.size + 1 < W0.heap.size := HB1.out.lt
    have ka : TwoC w.heap.size (.int .i64 f) (.slice a n cap) (W0.alloc (.cells #[.int .i64 0, .slice none 0 0] 47)).drew := (kb.keep hba (show w.heap.size < W0.heap.size by omega)).drew
    have ra : TwoB (w.heap.size + 1) (.int .i64 0) (.slice none 0 0) 47 (W0.alloc (.cells #[.int .i64 0, .slice none 0 0] 47)).drew := (show TwoB _ _ _ _ (W0.alloc (.cells #[.int .i64 0, .slice none 0 0] 47)) from HB1.out.keep hba hlb)
    have hbda : Below w.heap.size w (W0.alloc (.cells #[.int .i64 0, .slice none 0 0] 47)).drew := (below_up hb2 hba hb2.size).drew
    have hla := ra.lt
    have ya : TwoB W0.heap.size (.int .i64 0) (.slice none 0 0) 47 (W0.alloc (.cells #[.int .i64 0, .slice none 0 0] 47)).drew := (show TwoB W0.heap.size (.int .i64 0) (.slice none 0 0) 47 (W0.alloc (.cells #[.int .i64 0, .slice none 0 0] 47)) from twoB_new W0 (.int .i64 0) (.slice none 0 0) 47)
    have hya := ya.lt
    go_region_held3 (fun W => W.cell? ⟨w.heap.size, 0, none⟩ = some (.int .i64 f) ∧ W.cell? ⟨w.heap.size, 1, none⟩ = some (.slice a n cap))
      (first | exact kb | exact k0 | exact ka | exact k1 | exact k1.keep (below_alloc _ _) (by omega) | exact k2 | exact k2.keep (below_alloc _ _) (by omega) | exact k2.store2 _ _ (by omega) | go_keep)
      (first
        | (go_at_call 76; refine (HSR.out _ (by first | exact hbd | exact hbda)).mono ?_; rintro e w1 ⟨rfl, b1⟩; have k1 : TwoC w.heap.size (.int .i64 f) (.slice a n cap) w1 := (by first | exact k0.keep b1 (by omega) | exact ka.keep b1 (by omega)); have c1 : Below w.heap.size w w1 := (by first | exact below_up hbd b1 hbd.size | exact below_up hbda b1 hbda.size); have r1 : TwoB (w.heap.size + 1) (.int .i64 0) (.slice none 0 0) 47 w1 := (by first | exact r0.keep b1 hl0 | exact ra.keep b1 hla); have l1 := r1.lt; (try have y1 := ya.keep b1 hya))
        | (go_at_call 75; refine (HWG.out _ (by first | exact c1 | exact below_up c1 (below_alloc _ _) c1.size)).mono ?_; rintro e w2 ⟨g2, rfl, hg2, o2, b2⟩; have k2 : TwoC w.heap.size (.int .i64 f) (.slice a n cap) w2 := (by first | exact k1.keep b2 (by omega) | exact (k1.keep (below_alloc _ _) (by omega)).keep b2 (Nat.lt_of_lt_of_le (by omega) (below_alloc _ _).size)); have c2 : Below w.heap.size w w2 := (by first | exact below_up c1 b2 c1.size | exact below_up (below_up c1 (below_alloc _ _) c1.size) b2 (below_up c1 (below_alloc _ _) c1.size).size); have r2 : TwoB (w.heap.size + 1) (.int .i64 0) (.slice none 0 0) 47 w2 := (by first | exact r1.keep b2 (by omega) | exact (r1.keep (below_alloc _ _) (by omega)).keep b2 (Nat.lt_of_lt_of_le (by omega) (below_alloc _ _).size)); have l2 := r2.lt; have ng2 : g2 ≠ w.heap.size + 1 := (by (first | omega | (simp at hg2; omega))); (try have y2 := y1.keep b2 y1.lt); (try have y2 := (twoB_new w1 _ _ _).keep b2 (by simp)); (try have yc0 := y2.c.1); (try have yc1 := y2.c.2); (try have yf0 := heap_frozen (j := 0) y2); (try have yf1 := heap_frozen (j := 1) y2)))
    all_goals
      clear kb k0 ka k1 hbd hbda b1 b2 c1 r1 r0 ra hba
      have HO2 := Lib.hid o2
      have HMA : Hid (∀ (t2 : TypeId), MidV w (w2.alloc (.cells #[.int .i64 f, .slice (some ⟨g2, 0, none⟩) X.length X.length] t2)) w2.heap.size g2 n cap f a X 47) := Lib.hid fun t2 => MidV.a k2 r2 ng2 o2 c2
      (try have yl1 := y1.lt)
      (try have HMB := Lib.hid (MidV.b y2 (by omega) (by first | omega | (simp at hg2; omega)) k2 r2 ng2 o2 c2))
      clear k2 r2 o2 c2
      go_wp2_with fail
      go_meet
    all_goals first | exact ⟨_, g2, rfl, HMA.out _⟩ | exact ⟨_, g2, rfl, HMB.out⟩
  case rest =>
    obtain ⟨p3, g3, rfl, k3, r3, q3, lp3, hp3, hg3, o3, hb3⟩ := hcut
    have kk := FourT.mk k3 q3
    have kkd : FourT w.heap.size p3 (.int .i64 f) (.slice a n cap) (.int .i64 f) (.slice (some ⟨g3, 0, none⟩) X.length X.length) wc.drew := kk
    have c3d : Below w.heap.size w wc.drew := hb3.drew
    have l3d : p3 < wc.drew.heap.size := lp3
    have r3d : TwoB (w.heap.size + 1) (.int .i64 0) (.slice none 0 0) 47 wc.drew := r3
    have HPP := Lib.hid (HTR.out g3 wc.drew c3d o3)
    clear HTR HSR HWG HB0 HB1 hb2 k3 q3 o3
    go_wp2_with fail
    go_region_held3 (fun W => W.cell? ⟨w.heap.size, 0, none⟩ = some (.int .i64 f) ∧ W.cell? ⟨w.heap.size, 1, none⟩ = some (.slice a n cap) ∧ W.cell? ⟨p3, 0, none⟩ = some (.int .i64 f) ∧ W.cell? ⟨p3, 1, none⟩ = some (.slice (some ⟨g3, 0, none⟩) X.length X.length))
      (first | exact kk | exact kkd | exact kk4 | exact kk4.store2 _ _ (by omega) (by omega) | go_keep)
      (first
        | (go_at_call 77; refine HPP.out.mono ?_; rintro e w4 ⟨g4, rfl, hg4, o4, b4⟩; have kk4 := kkd.keep b4 (by omega) l3d; have c4 := below_up c3d b4 c3d.size; have r4 := r3d.keep b4 r3d.lt; have rr0 := r4.c.1; have rr1 := r4.c.2; have rf0 := heap_frozen (j := 0) r4; have rf1 := heap_frozen (j := 1) r4; have ne4 : g4 ≠ w.heap.size + 1 := (by (have := r3d.lt; omega)); have HO4 := Lib.hid o4))
    obtain ⟨e0, e1⟩ := store_cells (u := .int .i64 f) (v := .slice (some ⟨g4, 0, none⟩) R.length R.length) r4
    have HF : Hid (OwnVec f w R (.returned (.agg #[.int .i64 f, .slice (some ⟨g4, 0, none⟩) R.length R.length])) ((w4.setCell ⟨w.heap.size + 1, 0, none⟩ (.int .i64 f)).setCell ⟨w.heap.size + 1, 1, none⟩ (.slice (some ⟨g4, 0, none⟩) R.length R.length))) := Lib.hid ⟨g4, rfl, Nat.le_trans c3d.size hg4, own_store HO4.out ne4, below_store c4 (by omega)⟩
    clear kk kkd kk4 r4 rr0 rr1 rf0 rf1 HO4 c4 c3d b4 r3d r3 hb3
    generalize ((w4.setCell ⟨w.heap.size + 1, 0, none⟩ (.int .i64 f)).setCell ⟨w.heap.size + 1, 1, none⟩ (.slice (some ⟨g4, 0, none⟩) R.length R.length)) = W5 at *
    go_wp2
    refine bodyPost_ret (v := .agg #[.int .i64 f, .slice (some ⟨g4, 0, none⟩) R.length R.length]) (by simp [results, Tryd.results43, go_sem, *]) rfl ?_
    exact HF.out
end Go.Proofs.YtoonpnfhcmghmabDoor
namespace Go.Proofs.YtoonpnfhcmghmabDoor
open Go.RowKit
set_option maxRecDepth 100000 in
set_option maxHeartbeats 6400000 in
theorem withOdd_c (f : Int) (a : Option Addr) (l : List Int) (cap : Nat) (w : World) (ht : Tab w) (h : OpenOk f l) (hs : Src w a l.length (lf l)) : Calls Tryd.prog 46 #[.agg #[.int .i64 f, .slice a l.length cap]] w (OwnVec f w (obL f l)) := by
  have hroot := root_bd h.has.1
  have h08 := h.1.f08
  have hz : 0 < zL f l ∧ zL f l < P f := hroot
  have HSR : Hid (∀ W, Below w.heap.size w W → Calls Tryd.prog 76 #[.agg #[.int .i64 f, .slice a l.length cap]] W (IntP W (zL f l))) := Lib.hid fun W hb => splitRoot_c f a l cap W (ht.below hb) h
  have HIV : Hid (∀ W, Below w.heap.size w W → Calls Tryd.prog 79 #[.int .i64 f, .int .i64 (zL f l)] W fun e w' => e = .returned (.int .i64 (zvL f l)) ∧ W = w') := Lib.hid fun W hb => by
    have := inverseL_c f (zL f l) W (ht.below hb) h08.1 h08.2 (by omega) hz.2
    rw [inv_pw h08.1 h08.2 hz.1 hz.2] at this
    exact this
  have HTB : Hid (∀ W, Below w.heap.size w W → Calls Tryd.prog 78 #[.int .i64 f, .slice a l.length cap] W (OwnG W (bwdL f l))) := Lib.hid fun W hb => transformBack_c f a l cap W (ht.below hb) h.1 (hs.keep hb)
  have hzv : 0 < zvL f l ∧ zvL f l < P f := invR_bd h.has.1
  have HWG : Hid (∀ g W, Below w.heap.size w W → Own W g (bwdL f l).length (lf (bwdL f l)) → Calls Tryd.prog 75 #[.agg #[.int .i64 f, .slice (some ⟨g, 0, none⟩) (bwdL f l).length (bwdL f l).length], .int .i64 (zvL f l)] W (OwnVec f W (obL f l))) := Lib.hid fun g W hb ho => by
    have := weighted_c f (zvL f l) (some ⟨g, 0, none⟩) (bwdL f l) (bwdL f l).length W (ht.below hb) h.1.bwd ⟨by omega, hzv.2⟩ ho.src
    rw [bwdL_len, ob_by_bwd h] at this
    rw [bwdL_len]
    exact this
  clear hs h ht hroot hz hzv
  generalize obL f l = R at *
  generalize bwdL f l = X at *
  generalize zL f l = z at *
  generalize zvL f l = zv at *
  generalize l.length = n at *
  obtain ⟨t0, t1, hb2⟩ := two_start8 w (.int .i64 f) (.slice a n cap) (.int .i64 0) (.slice none 0 0) 47 49
  have HB0 := Lib.hid t0
  have HB1 := Lib.hid t1
  clear t0 t1
  go_enter Tryd.func46, Tryd.ntmps46
  go_wp2_with fail
  generalize ((w.alloc (.cells #[.int .i64 f, .slice a n cap] 47)).alloc (.cells #[.int .i64 0, .slice none 0 0] 49)) = W0 at *
  go_cut [3] from 4 (fun p wr => ∃ p3 g3, p = .pointer (some ⟨p3, 0, none⟩) ∧ MidV w wr p3 g3 n cap f a X 49)
  case first =>
    have kb := HB0.out.c
    have k0 : TwoC w.heap.size (.int .i64 f) (.slice a n cap) W0.drew := kb.drew
    have hbd : Below w.heap.size w W0.drew := hb2.drew
    have r0 : TwoB (w.heap.size + 1) (.int .i64 0) (.slice none 0 0) 49 W0.drew := HB1.out
    have hl0 : w.heap.size + 1 < W0.drew.heap.size := r0.lt
    have hba := below_alloc W0 (.cells #[.int .i64 0, .slice none 0 0] 47)
    have hlb : w.heap.size + 1 < W0.heap.size := HB1.out.lt
    have ka : TwoC w.heap.size (.int .i64 f) (.slice a n cap) (W0.alloc (.cells #[.int .i64 0, .slice none 0 0] 47)).drew := (kb.keep hba (show w.heap.size < W0.heap.size by omega)).drew
    have ra : TwoB (w.heap.size + 1) (.int .i64 0) (.slice none 0 0) 49 (W0.alloc (.cells #[.int .i64 0, .slice none 0 0] 47)).drew := (show TwoB _ _ _ _ (W0.alloc (.cells #[.int .i64 0, .slice none 0 0] 47)) from HB1.out.keep hba hlb)
    have hbda : Below w.heap.size w (W0.alloc (.cells #[.int .i64 0, .slice none 0 0] 47)).drew := (below_up hb2 hba hb2.size).drew
    have hla := ra.lt
    have ya : TwoB W0.heap.size (.int .i64 0) (.slice none 0 0) 47 (W0.alloc (.cells #[.int .i64 0, .slice none 0 0] 47)).drew := (show TwoB W0.heap.size (.int .i64 0) (.slice none 0 0) 47 (W0.alloc (.cells #[.int .i64 0, .slice none 0 0] 47)) from twoB_new W0 (.int .i64 0) (.slice none 0 0) 47)
    have hya := ya.lt
    go_region_held3 (fun W => W.cell? ⟨w.heap.size, 0, none⟩ = some (.int .i64 f) ∧ W.cell? ⟨w.heap.size, 1, none⟩ = some (.slice a n cap))
      (first | exact kb | exact k0 | exact ka | exact k2 | exact k2.keep (below_alloc _ _) (by omega) | exact k2.store2 _ _ (by omega) | go_keep)
      (first
        | (go_at_call 78; refine (HTB.out _ (by first | exact hbd | exact hbda)).mono ?_; rintro e w2 ⟨g2, rfl, hg2, o2, b2⟩; have k2 : TwoC w.heap.size (.int .i64 f) (.slice a n cap) w2 := (by first | exact k0.keep b2 (by omega) | exact ka.keep b2 (by omega)); have c2 : Below w.heap.size w w2 := (by first | exact below_up hbd b2 hbd.size | exact below_up hbda b2 hbda.size); have r2 : TwoB (w.heap.size + 1) (.int .i64 0) (.slice none 0 0) 49 w2 := (by first | exact r0.keep b2 hl0 | exact ra.keep b2 hla); have l2 := r2.lt; have ng2 : g2 ≠ w.heap.size + 1 := (by omega); (try have y2 := ya.keep b2 hya); (try have yg2 : g2 ≠ W0.heap.size := Nat.ne_of_gt (Nat.lt_of_lt_of_le hya hg2)); (try have yc0 := y2.c.1); (try have yc1 := y2.c.2); (try have yf0 := heap_frozen (j := 0) y2); (try have yf1 := heap_frozen (j := 1) y2)))
    all_goals
      clear kb k0 ka hbd hbda b2 r0 ra hba
      have HO2 := Lib.hid o2
      have HMA : Hid (∀ (t2 : TypeId), MidV w (w2.alloc (.cells #[.int .i64 f, .slice (some ⟨g2, 0, none⟩) X.length X.length] t2)) w2.heap.size g2 n cap f a X 49) := Lib.hid fun t2 => MidV.a k2 r2 ng2 o2 c2
      (try have HMB := Lib.hid (MidV.b y2 (by omega) yg2 k2 r2 ng2 o2 c2))
      clear k2 r2 o2 c2
      go_wp2_with fail
      go_meet
    all_goals first | exact ⟨_, g2, rfl, HMA.out _⟩ | exact ⟨_, g2, rfl, HMB.out⟩
  case rest =>
    obtain ⟨p3, g3, rfl, k3, r3, q3, lp3, hp3, hg3, o3, hb3⟩ := hcut
    have kk := FourT.mk k3 q3
    have kkd : FourT w.heap.size p3 (.int .i64 f) (.slice a n cap) (.int .i64 f) (.slice (some ⟨g3, 0, none⟩) X.length X.length) wc.drew := kk
    have c3d : Below w.heap.size w wc.drew := hb3.drew
    have l3d : p3 < wc.drew.heap.size := lp3
    have r3d : TwoB (w.heap.size + 1) (.int .i64 0) (.slice none 0 0) 49 wc.drew := r3
    have o3d : Own wc.drew g3 X.length (lf X) := o3
    clear HTB HB0 HB1 hb2 k3 q3
    go_wp2_with fail
    go_region_held3 (fun W => W.cell? ⟨w.heap.size, 0, none⟩ = some (.int .i64 f) ∧ W.cell? ⟨w.heap.size, 1, none⟩ = some (.slice a n cap) ∧ W.cell? ⟨p3, 0, none⟩ = some (.int .i64 f) ∧ W.cell? ⟨p3, 1, none⟩ = some (.slice (some ⟨g3, 0, none⟩) X.length X.length))
      (first | exact kk | exact kkd | exact kk1 | exact kk4 | exact kk4.store2 _ _ (by omega) (by omega) | go_keep)
      (first
        | (go_at_call 76; refine (HSR.out _ c3d).mono ?_; rintro e w1 ⟨rfl, b1⟩; have kk1 := kkd.keep b1 (by omega) l3d; have c1 := below_up c3d b1 c3d.size; have r1 := r3d.keep b1 r3d.lt; have o1 := o3d.keep b1; have l1 : p3 < w1.heap.size := (by (have := b1.size; omega)))
        | (go_at_call 79; refine (HIV.out _ c1).mono ?_; rintro e w' ⟨rfl, rfl⟩)
        | (go_at_call 75; refine (HWG.out g3 _ c1 o1).mono ?_; rintro e w4 ⟨g4, rfl, hg4, o4, b4⟩; have kk4 := kk1.keep b4 (by omega) l1; have c4 := below_up c1 b4 c1.size; have r4 := r1.keep b4 r1.lt; have rr0 := r4.c.1; have rr1 := r4.c.2; have rf0 := heap_frozen (j := 0) r4; have rf1 := heap_frozen (j := 1) r4; have ne4 : g4 ≠ w.heap.size + 1 := (by (have := r1.lt; omega)); have HO4 := Lib.hid o4))
    obtain ⟨e0, e1⟩ := store_cells (u := .int .i64 f) (v := .slice (some ⟨g4, 0, none⟩) R.length R.length) r4
    have HF : Hid (OwnVec f w R (.returned (.agg #[.int .i64 f, .slice (some ⟨g4, 0, none⟩) R.length R.length])) ((w4.setCell ⟨w.heap.size + 1, 0, none⟩ (.int .i64 f)).setCell ⟨w.heap.size + 1, 1, none⟩ (.slice (some ⟨g4, 0, none⟩) R.length R.length))) := Lib.hid ⟨g4, rfl, Nat.le_trans c1.size hg4, own_store HO4.out ne4, below_store c4 (by omega)⟩
    clear kk kkd kk1 kk4 r4 rr0 rr1 rf0 rf1 HO4 c4 c3d c1 b4 b1 r3d r3 r1 hb3 o1 o3 o3d HSR HIV HWG
    generalize ((w4.setCell ⟨w.heap.size + 1, 0, none⟩ (.int .i64 f)).setCell ⟨w.heap.size + 1, 1, none⟩ (.slice (some ⟨g4, 0, none⟩) R.length R.length)) = W5 at *
    go_wp2
    refine bodyPost_ret (v := .agg #[.int .i64 f, .slice (some ⟨g4, 0, none⟩) R.length R.length]) (by simp [results, Tryd.results46, go_sem, *]) rfl ?_
    exact HF.out
theorem field_el (f : Int) (a : Option Addr) (n c : Nat) (w : World) : (Instr.field 47 (.agg #[.int .i64 f, .slice a n c]) 1).run Tryd.prog w = .ok (.slice a n c) w := by kernel_rfl
theorem field_vec (f : Int) (a : Option Addr) (n c : Nat) (w : World) : (Instr.field 49 (.agg #[.int .i64 f, .slice a n c]) 0).run Tryd.prog w = .ok (.agg #[.int .i64 f, .slice a n c]) w := by kernel_rfl
theorem isSplit_c (f : Int) (a : Option Addr) (l : List Int) (cap : Nat) (w : World) (hn : l.length ≤ 1048576) (hs : Src w a l.length (lf l)) (ht : Tab w) : Calls Tryd.prog 41 #[.int .i64 f, .slice a l.length cap] w (SameB w (mOpen f l)) := by
  have hV := iVectorOk f a l cap w hn hs ht
  by_cases h : VecOk f l
  · rw [vok_iff.2 h] at hV
    have HV := Lib.hid hV
    have h9 : 0 ≤ mLog l.length ∧ mLog l.length ≤ 9 := by
      obtain ⟨k, hk, _, hl, _⟩ := h.log
      omega
    have qL : IntKind.i64.wrap (mLog l.length + 1) = mLog l.length + 1 := IntWalk.i64_in _ (by omega)
    by_cases hT : mLog l.length + 1 ≤ T f
    · rw [open_iff.2 ⟨h, hT⟩]
      have HR := Lib.hid (hasRoot_yes f (mLog l.length + 1) w ht ((hasK_iff _ _).2 ⟨by omega, hT⟩))
      clear hs h hV
      go_enter Tryd.func41, Tryd.ntmps41
      go_wp2_with fail
      refine HV.out.mono ?_
      rintro e w' ⟨rfl, rfl⟩
      go_wp2_with fail
      refine (iLogOf l.length w).mono ?_
      rintro e w' ⟨rfl, rfl⟩
      generalize mLog l.length = L at *
      go_wp2_with fail
      refine HR.out.mono ?_
      rintro e w' ⟨rfl, rfl⟩
      go_wp2
      go_ret
      exact ⟨rfl, rfl⟩
    · rw [open_not.2 fun x => hT x.2]
      have HR := Lib.hid (hasRoot_no f (mLog l.length + 1) w ht (fun x => hT ((hasK_iff _ _).1 x).2))
      clear hs h hV
      go_enter Tryd.func41, Tryd.ntmps41
      go_wp2_with fail
      refine HV.out.mono ?_
      rintro e w' ⟨rfl, rfl⟩
      go_wp2_with fail
      refine (iLogOf l.length w).mono ?_
      rintro e w' ⟨rfl, rfl⟩
      generalize mLog l.length = L at *
      go_wp2_with fail
      refine HR.out.mono ?_
      rintro e w' ⟨rfl, rfl⟩
      go_wp2
      go_ret
      exact ⟨rfl, rfl⟩
  · rw [vok_not.2 h] at hV
    have HV := Lib.hid hV
    rw [open_not.2 fun x => h x.1]
    clear hs h hV
    go_enter Tryd.func41, Tryd.ntmps41
    go_wp2_with fail
    refine HV.out.mono ?_
    rintro e w' ⟨rfl, rfl⟩
    go_wp2
    go_ret
    exact ⟨rfl, rfl⟩
theorem OwnVec.to {f : Int} {u w w' : World} {l : List Int} {e : Ending} (h : OwnVec f w l e w') (hb : Below u.heap.size u w) : ∃ g, e = .returned (.agg #[.int .i64 f, .slice (some ⟨g, 0, none⟩) l.length l.length]) ∧ OwnL u l (.returned (.slice (some ⟨g, 0, none⟩) l.length l.length)) w' := by
  obtain ⟨g, he, hg, ho, hb2⟩ := h
  exact ⟨g, he, OwnG.own ⟨g, rfl, Nat.le_trans hb.size hg, ho, below_up hb hb2 hb.size⟩⟩
theorem nil_own (w : World) : OwnL w [] (.returned (.slice none 0 0)) w := ⟨none, 0, rfl, OwnA.nil rfl, Below.refl _ _⟩
theorem iOddValues (f : Int) (a : Option Addr) (l : List Int) (cap : Nat) (w : World) (hn : l.length ≤ 1048576) (hs : Src w a l.length (lf l)) (ht : Tab w) : Calls Tryd.prog 13 #[.int .i64 f, .slice a l.length cap] w (OwnL w (mOddValues f l)) := by
  have hV := isSplit_c f a l cap w hn hs ht
  by_cases h : OpenOk f l
  · rw [show mOddValues f l = ovL f l by unfold mOddValues; rw [if_pos h]]
    rw [open_iff.2 h] at hV
    have HV := Lib.hid hV
    have HO : Hid (∀ W, Below w.heap.size w W → Calls Tryd.prog 43 #[.agg #[.int .i64 f, .slice a l.length cap]] W (OwnVec f W (ovL f l))) := Lib.hid fun W hb => oddValues_c f a l cap W (ht.below hb) h (hs.keep hb)
    clear hs h hV
    generalize ovL f l = R at *
    have hfe := field_el
    have hfv := field_vec
    go_enter Tryd.func13, Tryd.ntmps13
    go_wp2_with fail
    refine HV.out.mono ?_
    rintro e w' ⟨rfl, rfl⟩
    go_wp2_with fail
    refine (ringOf_c f a l.length cap w).mono ?_
    rintro e w1 ⟨rfl, b1⟩
    go_wp2_with fail
    refine (HO.out w1 b1).mono ?_
    rintro e w2 h2
    obtain ⟨g, rfl, h3⟩ := h2.to b1
    have HF := Lib.hid h3
    clear h3 HV HO h2
    go_wp2
    go_ret
    exact HF.out
  · rw [show mOddValues f l = [] by unfold mOddValues; rw [if_neg h]]
    rw [open_not.2 h] at hV
    have HV := Lib.hid hV
    clear hs h hV
    have hfe := field_el
    have hfv := field_vec
    go_enter Tryd.func13, Tryd.ntmps13
    go_wp2_with fail
    refine HV.out.mono ?_
    rintro e w' ⟨rfl, rfl⟩
    go_wp2
    go_ret
    exact nil_own w
theorem iOddBack (f : Int) (a : Option Addr) (l : List Int) (cap : Nat) (w : World) (hn : l.length ≤ 1048576) (hs : Src w a l.length (lf l)) (ht : Tab w) : Calls Tryd.prog 18 #[.int .i64 f, .slice a l.length cap] w (OwnL w (mOddBack f l)) := by
  have hV := isSplit_c f a l cap w hn hs ht
  by_cases h : OpenOk f l
  · rw [show mOddBack f l = obL f l by unfold mOddBack; rw [if_pos h]]
    rw [open_iff.2 h] at hV
    have HV := Lib.hid hV
    have HO := Lib.hid (withOdd_c f a l cap w ht h hs)
    clear hs h hV
    generalize obL f l = R at *
    have hfe := field_el
    have hfv := field_vec
    go_enter Tryd.func18, Tryd.ntmps18
    go_wp2_with fail
    refine HV.out.mono ?_
    rintro e w' ⟨rfl, rfl⟩
    go_wp2_with fail
    refine HO.out.mono ?_
    rintro e w2 h2
    obtain ⟨g, rfl, h3⟩ := h2.to (Below.refl _ _)
    have HF := Lib.hid h3
    clear h3 HV HO h2
    go_wp2
    go_ret
    exact HF.out
  · rw [show mOddBack f l = [] by unfold mOddBack; rw [if_neg h]]
    rw [open_not.2 h] at hV
    have HV := Lib.hid hV
    clear hs h hV
    have hfe := field_el
    have hfv := field_vec
    go_enter Tryd.func18, Tryd.ntmps18
    go_wp2_with fail
    refine HV.out.mono ?_
    rintro e w' ⟨rfl, rfl⟩
    go_wp2
    go_ret
    exact nil_own w
theorem iNorm (f : Int) (a : Option Addr) (l : List Int) (cap : Nat) (w : World) (hn : l.length ≤ 1048576) (hs : Src w a l.length (lf l)) (ht : Tab w) : Calls Tryd.prog 22 #[.int .i64 f, .slice a l.length cap] w (IntP w (mNorm f l)) := by
  have hV := isSplit_c f a l cap w hn hs ht
  by_cases h : OpenOk f l
  · rw [show mNorm f l = prF f (lf (ovL f l)) (ovL f l).length by unfold mNorm; rw [if_pos h]; unfold nmL; rw [ovL_len]]
    rw [open_iff.2 h] at hV
    have HV := Lib.hid hV
    have hov := h.1.ov
    have h08 := h.1.f08
    have h5 := hov.pos.2
    have HO : Hid (∀ W, Below w.heap.size w W → Calls Tryd.prog 43 #[.agg #[.int .i64 f, .slice a l.length cap]] W (OwnVec f W (ovL f l))) := Lib.hid fun W hb => oddValues_c f a l cap W (ht.below hb) h (hs.keep hb)
    have HP : Hid (∀ g W, Below w.heap.size w W → Own W g (ovL f l).length (lf (ovL f l)) → Calls Tryd.prog 48 #[.agg #[.int .i64 f, .slice (some ⟨g, 0, none⟩) (ovL f l).length (ovL f l).length]] W (IntP W (prF f (lf (ovL f l)) (ovL f l).length))) := Lib.hid fun g W hb ho => product8_c f (some ⟨g, 0, none⟩) _ _ (lf (ovL f l)) W (ht.below hb) h08 (fun j _ => hov.lt j) h5 ho.src
    clear hs h hV hov h5
    generalize ovL f l = R at *
    generalize prF f (lf R) R.length = N at *
    go_enter Tryd.func22, Tryd.ntmps22
    go_wp2_with fail
    refine HV.out.mono ?_
    rintro e w' ⟨rfl, rfl⟩
    go_wp2_with fail
    refine (ringOf_c f a l.length cap w).mono ?_
    rintro e w1 ⟨rfl, b1⟩
    go_wp2_with fail
    refine (HO.out w1 b1).mono ?_
    rintro e w2 ⟨g, rfl, hg, o2, b2⟩
    have c2 := below_up b1 b2 b1.size
    have HPP := Lib.hid (HP.out g w2 c2 o2)
    clear o2 HV HO HP b1 b2
    go_wp2_with fail
    refine HPP.out.mono ?_
    rintro e w3 ⟨rfl, b3⟩
    have c3 := below_up c2 b3 c2.size
    go_wp2
    go_ret
    exact ⟨rfl, c3⟩
  · rw [show mNorm f l = -1 by unfold mNorm; rw [if_neg h]]
    rw [open_not.2 h] at hV
    have HV := Lib.hid hV
    clear hs h hV
    go_enter Tryd.func22, Tryd.ntmps22
    go_wp2_with fail
    refine HV.out.mono ?_
    rintro e w' ⟨rfl, rfl⟩
    go_wp2
    go_ret
    exact ⟨rfl, Below.refl _ _⟩
set_option maxRecDepth 100000 in
set_option maxHeartbeats 1600000 in
theorem iRingInverse (f : Int) (a : Option Addr) (l : List Int) (cap : Nat) (w : World) (hn : l.length ≤ 1048576) (hs : Src w a l.length (lf l)) (ht : Tab w) : Calls Tryd.prog 20 #[.int .i64 f, .slice a l.length cap] w (OwnLB w (mRingInverse0 f l) (mRingInverse1 f l)) := by
  have hV := isSplit_c f a l cap w hn hs ht
  by_cases h : OpenOk f l
  · rw [open_iff.2 h] at hV
    have HV := Lib.hid hV
    have hov := h.1.ov
    have h08 := h.1.f08
    have h5 := hov.pos.2
    have HO : Hid (∀ W, Below w.heap.size w W → Calls Tryd.prog 43 #[.agg #[.int .i64 f, .slice a l.length cap]] W (OwnVec f W (ovL f l))) := Lib.hid fun W hb => oddValues_c f a l cap W (ht.below hb) h (hs.keep hb)
    have HP : Hid (∀ g W, Below w.heap.size w W → Own W g (ovL f l).length (lf (ovL f l)) → Calls Tryd.prog 48 #[.agg #[.int .i64 f, .slice (some ⟨g, 0, none⟩) (ovL f l).length (ovL f l).length]] W (IntP W (nmL f l))) := Lib.hid fun g W hb ho => by
      have := product8_c f (some ⟨g, 0, none⟩) _ (ovL f l).length (lf (ovL f l)) W (ht.below hb) h08 (fun j _ => hov.lt j) h5 ho.src
      unfold nmL
      rwa [show prF f (lf (ovL f l)) (ovL f l).length = prF f (lf (ovL f l)) l.length by rw [ovL_len]] at this
    have HI : Hid (∀ g W, Below w.heap.size w W → Own W g (ovL f l).length (lf (ovL f l)) → Calls Tryd.prog 49 #[.agg #[.int .i64 f, .slice (some ⟨g, 0, none⟩) (ovL f l).length (ovL f l).length]] W (OwnVec f W (bivL f (ovL f l)))) := Lib.hid fun g W hb ho => inverses8_c f (some ⟨g, 0, none⟩) (ovL f l) _ W (ht.below hb) h08 h5 ho.src
    have hbo := h.to hov.biv ((bivL_len _ _).trans (ovL_len _ _))
    have HK : Hid (∀ g W, Below w.heap.size w W → Own W g (bivL f (ovL f l)).length (lf (bivL f (ovL f l))) → Calls Tryd.prog 46 #[.agg #[.int .i64 f, .slice (some ⟨g, 0, none⟩) (bivL f (ovL f l)).length (bivL f (ovL f l)).length]] W (OwnVec f W (obL f (bivL f (ovL f l))))) := Lib.hid fun g W hb ho => withOdd_c f (some ⟨g, 0, none⟩) (bivL f (ovL f l)) _ W (ht.below hb) hbo ho.src
    by_cases hz : nmL f l = 0
    · have h0 : mRingInverse0 f l = [] := by unfold mRingInverse0; rw [if_neg fun x => x.2 hz]
      have h1 : mRingInverse1 f l = false := by simp only [mRingInverse1, decide_eq_false_iff_not]; exact fun x => x.2 hz
      rw [h0, h1]
      rw [hz] at HP
      clear hs h hV hov h5 hbo hz h0 h1 HI HK
      generalize ovL f l = R at *
      have hfe := field_el
      have hfv := field_vec
      go_enter Tryd.func20, Tryd.ntmps20
      go_wp2_with fail
      refine HV.out.mono ?_
      rintro e w' ⟨rfl, rfl⟩
      go_wp2_with fail
      refine (ringOf_c f a l.length cap w).mono ?_
      rintro e w1 ⟨rfl, b1⟩
      go_wp2_with fail
      refine (HO.out w1 b1).mono ?_
      rintro e w2 ⟨g, rfl, hg, o2, b2⟩
      have c2 := below_up b1 b2 b1.size
      have b3 := below_alloc w2 (.cells #[.int .i64 f, .slice (some ⟨g, 0, none⟩) R.length R.length] 47)
      have c3 := below_up c2 b3 c2.size
      have HPP := Lib.hid (HP.out g _ c3 (o2.keep b3))
      clear o2 HV HO HP b1 b2 b3
      go_wp2_with fail
      refine HPP.out.mono ?_
      rintro e w3 ⟨rfl, b3⟩
      have c4 := below_up c3 b3 c3.size
      go_wp2
      go_ret2
      exact ⟨none, 0, rfl, OwnA.nil rfl, c4⟩
    · have h0 : mRingInverse0 f l = obL f (bivL f (ovL f l)) := by unfold mRingInverse0; rw [if_pos ⟨h, hz⟩]
      have h1 : mRingInverse1 f l = true := by simp only [mRingInverse1, decide_eq_true_eq]; exact ⟨h, hz⟩
      rw [h0, h1]
      have hz2 : (nmL f l == 0) = false := by rw [beq_eq_false_iff_ne]; exact hz
      clear hs h hV hov h5 hbo h0 h1
      generalize obL f (bivL f (ovL f l)) = K at *
      generalize bivL f (ovL f l) = I at *
      generalize ovL f l = R at *
      generalize nmL f l = N at *
      have hfe := field_el
      have hfv := field_vec
      go_enter Tryd.func20, Tryd.ntmps20
      go_wp2_with fail
      refine HV.out.mono ?_
      rintro e w' ⟨rfl, rfl⟩
      go_wp2_with fail
      refine (ringOf_c f a l.length cap w).mono ?_
      rintro e w1 ⟨rfl, b1⟩
      go_wp2_with fail
      refine (HO.out w1 b1).mono ?_
      rintro e w2 ⟨g, rfl, hg, o2, b2⟩
      have c2 := below_up b1 b2 b1.size
      have b3 := below_alloc w2 (.cells #[.int .i64 f, .slice (some ⟨g, 0, none⟩) R.length R.length] 47)
      have c3 := below_up c2 b3 c2.size
      have o3 := o2.keep b3
      have t3 := twoB_new w2 (.int .i64 f) (.slice (some ⟨g, 0, none⟩) R.length R.length) 47
      have HPP := Lib.hid (HP.out g _ c3 o3)
      clear o2 HV HO HP b1 b2 b3
      go_wp2_with fail
      generalize w2.alloc (.cells #[.int .i64 f, .slice (some ⟨g, 0, none⟩) R.length R.length] 47) = W3 at *
      refine HPP.out.mono ?_
      rintro e w3 ⟨rfl, b3⟩
      have c4 := below_up c3 b3 c3.size
      have t4 := t3.keep b3 t3.lt
      obtain ⟨t40, t41⟩ := t4.c
      have HII := Lib.hid (HI.out g w3 c4 (o3.keep b3))
      clear o3 b3 t3 HPP
      go_wp2_with fail
      refine HII.out.mono ?_
      rintro e w4 ⟨g4, rfl, hg4, o4, b4⟩
      have c5 := below_up c4 b4 c4.size
      have HKK := Lib.hid (HK.out g4 w4 c5 o4)
      clear o4 b4 HII HI t40 t41 t4
      go_wp2_with fail
      refine HKK.out.mono ?_
      rintro e w5 h5
      obtain ⟨g5, rfl, h6⟩ := h5.to c5
      obtain ⟨a6, c6, he6, o6, b6⟩ := h6
      cases he6
      have HF : Hid (OwnLB w K true (.returned (.tuple #[.slice (some ⟨g5, 0, none⟩) K.length K.length, .bool true])) w5) := Lib.hid ⟨_, _, rfl, o6, b6⟩
      clear o6 b6 h5 HKK HK
      go_wp2
      go_ret2
      exact HF.out
  · rw [open_not.2 h] at hV
    have HV := Lib.hid hV
    have h0 : mRingInverse0 f l = [] := by unfold mRingInverse0; rw [if_neg fun x => h x.1]
    have h1 : mRingInverse1 f l = false := by simp only [mRingInverse1, decide_eq_false_iff_not]; exact fun x => h x.1
    rw [h0, h1]
    clear hs h hV h0 h1
    have hfe := field_el
    have hfv := field_vec
    go_enter Tryd.func20, Tryd.ntmps20
    go_wp2_with fail
    refine HV.out.mono ?_
    rintro e w' ⟨rfl, rfl⟩
    go_wp2
    go_ret2
    exact ⟨none, 0, rfl, OwnA.nil rfl, Below.refl _ _⟩
end Go.Proofs.YtoonpnfhcmghmabDoor
namespace Go.Proofs.YtoonpnfhcmghmabDoor
open Go.RowKit
/-- The sum so far, at place j. -/
def osF (p v : Int) (V : Nat → Int) (j k : Nat) : Int := sumN (fun i => V i * v ^ (j * (2 * i + 1))) k % p
theorem os_zero (p v : Int) (V : Nat → Int) (j : Nat) : osF p v V j 0 = 0 := Int.zero_emod _
theorem os_step {f z v : Int} {n : Nat} (h : Rt f z v (2 * n)) (V : Nat → Int) (j k : Nat) : (osF (P f) v V j k + V k * (v ^ (j * (2 * k + 1) % (2 * n)) % P f)) % P f = osF (P f) v V j (k + 1) := by
  unfold osF
  show _ = (sumN (fun i => V i * v ^ (j * (2 * i + 1))) k + V k * v ^ (j * (2 * k + 1))) % P f
  refine emod_add_congr (mod2 _ _) (emod_mul_congr rfl ?_)
  rw [mod2]
  exact h.swap.exp (Nat.mod_mod _ _)
theorem os_bd {p : Int} (hp : 0 < p) (v : Int) (V : Nat → Int) (j k : Nat) : 0 ≤ osF p v V j k ∧ osF p v V j k < p := ⟨Int.emod_nonneg _ (by omega), Int.emod_lt_of_pos _ hp⟩
theorem pow_next8 (p z : Int) (k : Nat) : (z ^ k % p * z) % p = z ^ (k + 1) % p := by
  rw [Int.pow_succ]
  exact emod_mul_congr (mod2 _ _) rfl
theorem zv_bd {f : Int} {l : List Int} (h : OpenOk f l) : 0 < zvL f l ∧ zvL f l < P f := invR_bd h.has.1
set_option maxRecDepth 100000 in
set_option maxHeartbeats 3200000 in
theorem sOddBack_on (f : Int) (a : Option Addr) (l : List Int) (cap : Nat) (w : World) (hn : l.length ≤ 1048576) (hs : Src w a l.length (lf l)) (h : OpenOk f l) : Calls Tryd.prog 17 #[.int .i64 f, .slice a l.length cap] w (ListL w (obL f l)) := by
  obtain ⟨i0, hi, hz0, hz1, hz2⟩ := info_parts info3
  have HI := Lib.hid hi
  have HZ0 := Lib.hid hz0
  have HZ1 := Lib.hid hz1
  have HZ2 := Lib.hid hz2
  clear hi hz0 hz1 hz2
  have BA : Hid (∀ o, Below w.heap.size w (w.alloc o)) := Lib.hid fun o => (Below.refl _ _).alloc (Nat.le_refl _) o
  have HV : Hid (∀ w2, Below w.heap.size w w2 → Calls Tryd.prog 36 #[.int .i64 f, .slice a l.length cap] w2 (SameB w2 true)) := Lib.hid fun w2 hb => by
    have R1 := sOpen f a l cap w2 hn (hs.keep hb)
    rwa [open_iff.2 h] at R1
  have hn0 := h.1.pos.1
  have hn5 := h.1.pos.2
  obtain ⟨h0, h8⟩ := h.1.f08
  have hp := P_bd h0 h8
  have q7 : ¬ P f = 0 := by omega
  have kz : (P f == 0) = false := by rw [beq_eq_false_iff_ne]; omega
  have HA := Lib.hid h.1.lt
  have ZB := zv_bd h
  have HST := Lib.hid (os_step h.rt (lf l))
  obtain ⟨k9, hk9, hkn, hlk, hkh⟩ := h.1.log
  clear hkn hkh
  have HLK := Lib.hid hlk
  have HZ : Hid (mPower f (mRoot f (mLog l.length + 1)) (-1) = zvL f l) := Lib.hid rfl
  rw [hlk] at HZ
  obtain ⟨b, off, rfl, hlt, hc⟩ := vec_some hs hn0
  have HC := Lib.hid hc
  have HF : Hid (∀ v W, W.ownsRow w.heap.size 3 1 v l.length (xsF (fun j => RS (obF (zvL f l) l.length (lf l) j * mPower f l.length (-1)) (P f)) l.length) → Below w.heap.size w W → ListL w (obL f l) (.returned v) W) := Lib.hid fun v W ho hb => (owns_to (w := w) (l := obL f l) ho (obL_len _ _).symm (fun j hj => by unfold obL; rw [lf_tab, if_pos hj]) hb).list
  have HEND : Hid (∀ j, mMul f (osF (P f) (zvL f l) (lf l) j l.length) (mPower f l.length (-1)) = RS (obF (zvL f l) l.length (lf l) j * mPower f l.length (-1)) (P f)) := Lib.hid fun j => by
    unfold mMul
    rw [if_pos ⟨h0, h8⟩]
    exact emod_mul_congr (mod2 _ _) rfl
  clear hs hc h hlk
  have HLL : Hid (mLog (l.length : Int) = k9) := HLK
  clear HLK
  generalize obL f l = OL at *
  generalize zvL f l = z at *
  generalize lf l = A at *
  generalize l.length = n at *
  generalize hG : (fun j => RS (obF z n A j * mPower f n (-1)) (P f)) = G at HF
  have HG : Hid (∀ j, mMul f (osF (P f) z A j n) (mPower f n (-1)) = G j) := Lib.hid fun j => by rw [HEND.out, ← hG]
  clear HEND hG
  have OE := Lib.hid (own_empty w G)
  go_enter Tryd.func17, Tryd.ntmps17
  go_wp2_with fail
  refine (HV.out _ (BA.out _)).mono ?_
  rintro e w' ⟨rfl, rfl⟩
  go_wp2_with fail
  refine (sModulus f _).mono ?_
  rintro e w' ⟨rfl, rfl⟩
  go_wp2_with fail
  refine (sLogOf n _).mono ?_
  rintro e w' ⟨rfl, rfl⟩
  rw [HLL.out]
  go_wp2_with fail
  refine (sRootOf f ((k9 : Int) + 1) _).mono ?_
  rintro e w' ⟨rfl, rfl⟩
  go_wp2_with fail
  refine (sInverse f (mRoot f ((k9 : Int) + 1)) _).mono ?_
  rintro e w' ⟨rfl, rfl⟩
  rw [HZ.out]
  obtain ⟨W1, hW1⟩ : ∃ W1, w.alloc (.cells #[] 3) = W1 := ⟨_, rfl⟩
  have hz1 : W1.heap.size = w.heap.size + 1 := by rw [← hW1]; simp
  have hb1 : Below w.heap.size w W1 := by rw [← hW1]; exact BA.out _
  rw [hW1] at OE ⊢
  have HZS := Lib.hid hz1
  clear hW1 HV hz1
  go_wp2_with fail
  go_loopw [9, 10, 11] (fun v x i wr => ∃ k : Nat, i = .int .i64 k ∧ k ≤ 2 * n ∧ x = .int .i64 (z ^ k % P f) ∧ wr.ownsRow W1.heap.size 3 1 v k (xsF (fun i => z ^ i % P f) k) ∧ Below W1.heap.size W1 wr) (fun _ _ i _ => 2 * n - (intOf i).toNat)
  case atStart => exact ⟨0, rfl, Nat.zero_le _, vint (by rw [Int.pow_zero]; exact (Int.emod_eq_of_lt (by omega) (by omega)).symm), own_empty W1 _, (Below.refl _ _).alloc (Nat.le_refl _) _⟩
  case round =>
    obtain ⟨k, rfl, hk, rfl, hown, hnx⟩ := hrel
    have hs := hnx.size
    by_cases h1 : k < 2 * n
    · have hd1 : decide ((k : Int) < 2 * (n : Int)) = true := decide_eq_true (by omega)
      have YB : 0 ≤ z ^ k % P f ∧ z ^ k % P f < P f := ⟨Int.emod_nonneg _ (by omega), Int.emod_lt_of_pos _ (by omega)⟩
      have pb := prod_bd h0 h8 YB.1 YB.2 (show 0 ≤ z by omega) ZB.2
      have HN := Lib.hid (pow_next8 (P f) z k)
      have HX := Lib.hid (xsF_succ (fun i => z ^ i % P f) k)
      have tm : (z ^ k % P f * z).tmod (P f) = z ^ (k + 1) % P f := by
        rw [Int.tmod_eq_emod_of_nonneg (by omega), HN.out]
      generalize hy2 : z ^ (k + 1) % P f = y2 at *
      have HY2 := Lib.hid hy2
      clear hy2
      have HXX : Hid (∀ (w' : World) (v' : Value), w'.ownsRow W1.heap.size 3 1 v' (k + 1) (xsF (fun i => z ^ i % P f) k ++ [.int .i64 (z ^ k % P f)]) → w'.ownsRow W1.heap.size 3 1 v' (k + 1) (xsF (fun i => z ^ i % P f) (k + 1))) := Lib.hid fun (w' : World) (v' : Value) h => by rw [← HX.out]; exact h
      generalize xsF (fun i => z ^ i % P f) k = XS at *
      generalize z ^ k % P f = y at *
      go_wp2_with (at_builtin; refine wpList_append_own _ rfl _ _ 22 rfl W1.heap.size 3 i0 (.int .i64 0) 1 8 Tryd.underlying22 HI.out HZ0.out HZ1.out HZ2.out rfl (by decide) _ _ _ rfl (hown.alloc _) ⟨wr.heap.size, 0, none⟩ 1 1 [.int .i64 y] rfl rfl ?c1 ?c2 ?c3 ?c4 ?c5 ?_)
      case c1 => exact cell_one_new _ _ _
      case c2 => first | rfl | (intro u hu; simp at hu; subst hu; rfl)
      case c3 => unfold maxLen; omega
      case c4 => omega
      case c5 => first | omega | (simp; omega)
      intro v' w2 hown' hgrow _
      have hbel : Below W1.heap.size W1 w2 := (hnx.alloc hs _).grown hgrow (by simp; omega) (own_ge hown)
      have hown2 := HXX.out w2 v' hown'
      have q5 : IntKind.i64.wrap (y * z) = y * z := IntWalk.i64_in _ (by omega)
      clear hgrow hown hown' HXX
      go_wp2
      go_roundw
      case rel => exact ⟨k + 1, by go_num, by omega, vint HY2.out.symm, hown2, hbel⟩
      case measure => simp [intOf]; omega
    · have hd1 : decide ((k : Int) < 2 * (n : Int)) = false := decide_eq_false (by omega)
      obtain rfl : k = 2 * n := by omega
      obtain ⟨bs, cap1, rfl, hbs, hov⟩ := OwnV.of_owns hown (by omega)
      have HCS0 : Hid (∀ j, j < 2 * n → wr.cell? ⟨bs, j, none⟩ = some (.int .i64 (z ^ j % P f))) := Lib.hid fun j hj => hov.cell hj
      have hlts0 := hov.lt
      have hbs2 : w.heap.size < bs := by have := HZS.out; omega
      have HE1 := Lib.hid (OE.out.kept (grown_none hnx) (by cases Value.ownBlock _ <;> simp))
      have hb2 : Below w.heap.size w wr := below_up hb1 hnx (by have := HZS.out; omega)
      clear hown hov hnx OE
      go_wp2_with fail
      refine (sInverse f n _).mono ?_
      rintro e w' ⟨rfl, rfl⟩
      go_wp2_with fail
      go_loopw [5, 13, 14, 15] (fun v i _ _ wr => ∃ k : Nat, i = .int .i64 k ∧ k ≤ n ∧ wr.ownsRow w.heap.size 3 1 v k (xsF G k) ∧ v.ownBlock ≠ some bs ∧ bs < wr.heap.size ∧ Hid (∀ j, j < 2 * n → wr.cell? ⟨bs, j, none⟩ = some (.int .i64 (z ^ j % P f))) ∧ Below w.heap.size w wr) (fun _ i _ _ _ => n - (intOf i).toNat)
      case atStart => exact ⟨0, rfl, Nat.zero_le _, HE1.out, (fun e => by injection e with e; have e : w.heap.size = bs := e; omega), hlts0, HCS0, hb2⟩
      case round =>
        clear HE1 HCS0 hlts0 hb2
        obtain ⟨k, rfl, hk2, hown, hne, hlts, HCS, hnx⟩ := hrel
        have hs2 := hnx.size
        by_cases h3 : k < n
        · have hd3 : decide ((k : Int) < n) = true := decide_eq_true (by omega)
          have HOWN := Lib.hid hown
          clear hown
          go_wp2_with fail
          go_loopw [14, 15] (fun s j W2 => ∃ m : Nat, j = .int .i64 m ∧ m ≤ n ∧ s = .int .i64 (osF (P f) z A k m) ∧ ∃ q, W2 = wr.drewN q) (fun _ j _ => n - (intOf j).toNat)
          case atStart => exact ⟨0, rfl, Nat.zero_le _, by rw [os_zero], 0, rfl⟩
          case round =>
            obtain ⟨m, rfl, hm, rfl, q, rfl⟩ := hrel
            by_cases h4 : m < n
            · have hd4 : decide ((m : Int) < n) = true := decide_eq_true (by omega)
              have d1 : wr.cell? ⟨b, off + m, none⟩ = some (.int .i64 (A m)) := (hnx.cell (p := ⟨b, off + m, none⟩) hlt).trans (HC.out m h4)
              obtain ⟨KM, hKM⟩ : ∃ KM : Nat, KM = k * (2 * m + 1) := ⟨_, rfl⟩
              have kb : KM ≤ 512 * 1025 := by rw [hKM]; exact Nat.mul_le_mul (by omega) (by omega)
              have km : (k : Int) * (2 * (m : Int) + 1) = (KM : Int) := by rw [hKM, Int.natCast_mul]; rfl
              have hS := HST.out k m
              rw [← hKM] at hS
              clear hKM
              have hU : KM % (2 * n) < 2 * n := Nat.mod_lt _ (by omega)
              have d2 : wr.cell? ⟨bs, KM % (2 * n), none⟩ = some (.int .i64 (z ^ (KM % (2 * n)) % P f)) := HCS.out _ hU
              have bA := HA.out m
              have YB : 0 ≤ z ^ (KM % (2 * n)) % P f ∧ z ^ (KM % (2 * n)) % P f < P f := ⟨Int.emod_nonneg _ (by omega), Int.emod_lt_of_pos _ (by omega)⟩
              have pb := prod_bd h0 h8 bA.1 bA.2 YB.1 YB.2
              have pr := os_bd (show 0 < P f by omega) z A k m
              have HS := Lib.hid hS
              clear hS
              have qa : IntKind.i64.wrap ((k : Int) * (2 * (m : Int) + 1)) = (KM : Int) := by rw [km]; exact IntWalk.i64_in _ (by omega)
              have tm : (KM : Int).tmod (2 * (n : Int)) = ((KM % (2 * n) : Nat) : Int) := by
                rw [Int.tmod_eq_emod_of_nonneg (by omega), Int.natCast_emod]; rfl
              have qn : IntKind.i64.wrap (2 * (n : Int)) = 2 * (n : Int) := IntWalk.i64_in _ (by omega)
              have kz2 : ((2 * (n : Int)) == 0) = false := by rw [beq_eq_false_iff_ne]; omega
              have kz3 : ¬ (2 * (n : Int)) = 0 := by omega
              have tS : (osF (P f) z A k m + A m * (z ^ (KM % (2 * n)) % P f)).tmod (P f) = osF (P f) z A k (m + 1) := by
                rw [Int.tmod_eq_emod_of_nonneg (by omega), HS.out]
              generalize hS2 : osF (P f) z A k (m + 1) = S2 at *
              have HS2 := Lib.hid hS2
              clear hS2 HS km
              generalize osF (P f) z A k m = S at *
              generalize z ^ (KM % (2 * n)) % P f = Y at *
              generalize KM % (2 * n) = U at *
              have q2 : ((U : Nat) : Int).toNat = U := by omega
              have q3 : (0 : Int) ≤ ((U : Nat) : Int) := by omega
              have q4 : ((U : Nat) : Int) < 2 * (n : Int) := by omega
              have q4b : ((U : Nat) : Int) < ((2 * n : Nat) : Int) := by omega
              have q5 : IntKind.i64.wrap (A m * Y) = A m * Y := IntWalk.i64_in _ (by omega)
              have q6 : IntKind.i64.wrap (S + A m * Y) = S + A m * Y := IntWalk.i64_in _ (by omega)
              go_wp2
              go_quiet (fail)
              go_wp2
              go_roundw
              case rel => exact ⟨m + 1, by go_num, by omega, vint HS2.out.symm, _, rfl⟩
              case measure => simp [intOf]; omega
            · have hd4 : decide ((m : Int) < n) = false := decide_eq_false (by omega)
              obtain rfl : m = n := by omega
              have hown : (wr.drewN q).ownsRow w.heap.size 3 1 _ k (xsF G k) := HOWN.out
              have hbq := below_drewN hnx q
              have hqs : w.heap.size ≤ (wr.drewN q).heap.size := hs2
              have HCQ : Hid (∀ j, j < 2 * m → (wr.drewN q).cell? ⟨bs, j, none⟩ = some (.int .i64 (z ^ j % P f))) := Lib.hid fun j hj => HCS.out j hj
              have hltq : bs < (wr.drewN q).heap.size := hlts
              have HGK := Lib.hid (HG.out k)
              have HXS := Lib.hid (xsF_succ G k)
              clear HCS hlts
              go_wp2_with fail
              refine (sMul f (osF (P f) z A k m) (mPower f m (-1)) _).mono ?_
              rintro e w' ⟨rfl, rfl⟩
              rw [HGK.out]
              generalize G k = GK at *
              generalize wr.drewN q = W3 at *
              go_wp2_with (at_builtin; refine wpList_append_own_at _ rfl _ _ 22 rfl w.heap.size 3 i0 (.int .i64 0) 1 8 Tryd.underlying22 HI.out HZ0.out HZ1.out HZ2.out rfl (by decide) _ _ _ rfl (hown.alloc _) ⟨W3.heap.size, 0, none⟩ 1 1 [.int .i64 GK] rfl rfl ?d1 ?d2 ?d3 ?d4 ?d5 ?_)
              case d1 => exact cell_one_new _ _ _
              case d2 => first | rfl | (intro u hu; simp at hu; subst hu; rfl)
              case d3 => unfold maxLen; omega
              case d4 => omega
              case d5 => first | omega | (simp; omega)
              intro v' w2 hown' hgrow _ hat
              have hbel : Below w.heap.size w w2 := (hbq.alloc (by omega) _).grown hgrow (by simp; omega) (own_ge hown)
              have HCS2 : Hid (∀ j, j < 2 * m → w2.cell? ⟨bs, j, none⟩ = some (.int .i64 (z ^ j % P f))) := Lib.hid fun j hj => hgrow.cell ((World.grownBy_alloc W3 _ none).cell (HCQ.out j hj) (by simp)) (fun e => hne e.symm)
              have hlt2 : bs < w2.heap.size := by have := hgrow.size; simp at this; omega
              have hne2 : v'.ownBlock ≠ some bs := fun e => by
                rcases hat with h | h
                · exact hne (h.symm.trans e)
                · rw [e] at h; injection h with h; first | omega | (simp at h; omega)
              have hown2 : w2.ownsRow w.heap.size 3 1 v' (k + 1) (xsF G (k + 1)) := by rw [← HXS.out]; exact hown'
              clear hgrow hown hown' HCQ HOWN
              go_wp2
              go_roundw
              case rel => exact ⟨k + 1, by go_num, by omega, hown2, hne2, hlt2, HCS2, hbel⟩
              case measure => simp [intOf]; omega
        · have hd3 : decide ((k : Int) < n) = false := decide_eq_false (by omega)
          obtain rfl : k = n := by omega
          have HO := Lib.hid (HF.out _ wr hown hnx)
          clear hown
          go_wp2
          go_ret
          exact HO.out
theorem sOddBack (f : Int) (a : Option Addr) (l : List Int) (cap : Nat) (w : World) (hn : l.length ≤ 1048576) (hs : Src w a l.length (lf l)) : Calls Tryd.prog 17 #[.int .i64 f, .slice a l.length cap] w (ListL w (mOddBack f l)) := by
  by_cases h : OpenOk f l
  · rw [show mOddBack f l = obL f l by unfold mOddBack; rw [if_pos h]]
    exact sOddBack_on f a l cap w hn hs h
  · rw [show mOddBack f l = [] by unfold mOddBack; rw [if_neg h]]
    have BA : Hid (∀ o, Below w.heap.size w (w.alloc o)) := Lib.hid fun o => (Below.refl _ _).alloc (Nat.le_refl _) o
    have HV : Hid (∀ w2, Below w.heap.size w w2 → Calls Tryd.prog 36 #[.int .i64 f, .slice a l.length cap] w2 (SameB w2 false)) := Lib.hid fun w2 hb => by
      have R1 := sOpen f a l cap w2 hn (hs.keep hb)
      rwa [open_not.2 h] at R1
    clear hs h
    go_enter Tryd.func17, Tryd.ntmps17
    go_wp2_with fail
    refine (HV.out _ (BA.out _)).mono ?_
    rintro e w' ⟨rfl, rfl⟩
    go_wp2
    go_ret
    exact ⟨none, 0, rfl, .inl rfl, BA.out _⟩
theorem sRingInverse (f : Int) (a : Option Addr) (l : List Int) (cap : Nat) (w : World) (hn : l.length ≤ 1048576) (hs : Src w a l.length (lf l)) : Calls Tryd.prog 19 #[.int .i64 f, .slice a l.length cap] w (ListLB w (mRingInverse0 f l) (mRingInverse1 f l)) := by
  have HOP := sOpen f a l cap w hn hs
  by_cases h : OpenOk f l
  · rw [open_iff.2 h] at HOP
    have HNM : Hid (Calls Tryd.prog 21 #[.int .i64 f, .slice a l.length cap] w (IntP w (nmL f l))) := Lib.hid (by
      have := sNorm f a l cap w hn hs
      rwa [show mNorm f l = nmL f l by unfold mNorm; rw [if_pos h]] at this)
    have HO := Lib.hid HOP
    by_cases hz : nmL f l = 0
    · have h0 : mRingInverse0 f l = [] := by unfold mRingInverse0; rw [if_neg fun x => x.2 hz]
      have h1 : mRingInverse1 f l = false := by simp only [mRingInverse1, decide_eq_false_iff_not]; exact fun x => x.2 hz
      rw [h0, h1]
      rw [hz] at HNM
      clear hs h hz h0 h1 HOP
      go_enter Tryd.func19, Tryd.ntmps19
      go_wp2_with fail
      refine HO.out.mono ?_
      rintro e w' ⟨rfl, rfl⟩
      go_wp2_with fail
      refine HNM.out.mono ?_
      rintro e w1 ⟨rfl, b1⟩
      go_wp2
      go_ret2
      exact ⟨none, 0, rfl, .inl rfl, b1⟩
    · have h0 : mRingInverse0 f l = obL f (bivL f (ovL f l)) := by unfold mRingInverse0; rw [if_pos ⟨h, hz⟩]
      have h1 : mRingInverse1 f l = true := by simp only [mRingInverse1, decide_eq_true_eq]; exact ⟨h, hz⟩
      rw [h0, h1]
      have hz2 : (nmL f l == 0) = false := by rw [beq_eq_false_iff_ne]; exact hz
      have HOV : Hid (∀ W, Below w.heap.size w W → Calls Tryd.prog 11 #[.int .i64 f, .slice a l.length cap] W (ListL W (ovL f l))) := Lib.hid fun W hb => sOddValues_on f a l cap W hn (hs.keep hb) h
      have hov := h.1.ov
      have h08 := h.1.f08
      have h5 := hov.pos.2
      have HB : Hid (∀ a c W, Src W a (ovL f l).length (lf (ovL f l)) → Calls Tryd.prog 47 #[.int .i64 f, .slice a (ovL f l).length c] W (ListL W (bivL f (ovL f l)))) := Lib.hid fun a c W hs => (sBatch_on f a _ c (lf (ovL f l)) W h08.1 h08.2 (by omega) hs).mono fun e W' ⟨a2, c2, he, hs2, hb⟩ => by
        have hl := bivL_len f (ovL f l)
        refine ⟨a2, c2, by rw [hl]; exact he, ?_, hb⟩
        rw [hl]
        rcases hs2 with q | ⟨b, off, q, hlt, hc⟩
        · exact .inl q
        · exact .inr ⟨b, off, q, hlt, fun j hj => by rw [hc j hj]; unfold bivL; rw [lf_tab, if_pos hj]⟩
      have HK : Hid (∀ a c W, Src W a (bivL f (ovL f l)).length (lf (bivL f (ovL f l))) → Calls Tryd.prog 17 #[.int .i64 f, .slice a (bivL f (ovL f l)).length c] W (ListL W (obL f (bivL f (ovL f l))))) := Lib.hid fun a c W hs => by
        have ho := h.to hov.biv ((bivL_len _ _).trans (ovL_len _ _))
        have := ho.1.pos.2
        exact sOddBack_on f a _ c W (by omega) hs ho
      clear hs h hz h0 h1 HOP hov h5
      generalize obL f (bivL f (ovL f l)) = R at *
      generalize bivL f (ovL f l) = BV at *
      generalize ovL f l = OV at *
      generalize nmL f l = NM at *
      go_enter Tryd.func19, Tryd.ntmps19
      go_wp2_with fail
      refine HO.out.mono ?_
      rintro e w' ⟨rfl, rfl⟩
      go_wp2_with fail
      refine HNM.out.mono ?_
      rintro e w1 ⟨rfl, b1⟩
      go_wp2_with fail
      refine (HOV.out w1 b1).mono ?_
      rintro e w2 ⟨a2, c2, rfl, s2, b2⟩
      have b12 := below_up b1 b2 b1.size
      have HS2 := Lib.hid s2
      clear s2 b1 b2
      go_wp2_with fail
      refine (HB.out a2 c2 w2 HS2.out).mono ?_
      rintro e w3 ⟨a3, c3, rfl, s3, b3⟩
      have b13 := below_up b12 b3 b12.size
      have HS3 := Lib.hid s3
      clear s3 b3 b12
      go_wp2_with fail
      refine (HK.out a3 c3 w3 HS3.out).mono ?_
      rintro e w4 ⟨a4, c4, rfl, s4, b4⟩
      have b14 := below_up b13 b4 b13.size
      have HS4 := Lib.hid s4
      clear s4 b4 b13
      go_wp2
      go_ret2
      exact ⟨a4, c4, rfl, HS4.out, b14⟩
  · rw [open_not.2 h] at HOP
    have HO := Lib.hid HOP
    have h0 : mRingInverse0 f l = [] := by unfold mRingInverse0; rw [if_neg fun x => h x.1]
    have h1 : mRingInverse1 f l = false := by simp only [mRingInverse1, decide_eq_false_iff_not]; exact fun x => h x.1
    rw [h0, h1]
    clear hs h h0 h1 HOP
    go_enter Tryd.func19, Tryd.ntmps19
    go_wp2_with fail
    refine HO.out.mono ?_
    rintro e w' ⟨rfl, rfl⟩
    go_wp2
    go_ret2
    exact ⟨none, 0, rfl, .inl rfl, Below.refl _ _⟩
end Go.Proofs.YtoonpnfhcmghmabDoor
namespace Go.Proofs.YtoonpnfhcmghmabDoor
open Mth
/-- Rounded quotients. -/
theorem cen_bd {f x : Int} (h0 : 0 ≤ f) (h8 : f ≤ 8) (hx : 0 ≤ x ∧ x < P f) : 2 * cenF f x < P f ∧ - P f < 2 * cenF f x ∧ RS (cenF f x) (P f) = x := by
  have ho := P_odd h0 h8
  have hp := P_bd h0 h8
  unfold cenF RS
  split
  · refine ⟨by omega, by omega, ?_⟩
    rw [Int.sub_emod_right]
    exact Int.emod_eq_of_lt hx.1 hx.2
  · exact ⟨by omega, by omega, Int.emod_eq_of_lt hx.1 hx.2⟩
/-- Rounding down, as each side does it. -/
theorem floor_spec {a m : Int} (hm : 0 < m) : (if a.tdiv m * m > a then a.tdiv m - 1 else a.tdiv m) = a / m := by
  have h1 := Int.mul_tdiv_add_tmod a m
  have h2 := Int.emod_add_mul_ediv a m
  have b1 := Int.emod_nonneg a (b := m) (by omega)
  have b2 := Int.emod_lt_of_pos a hm
  have b3 := Int.lt_tmod_of_pos a hm
  have b4 := Int.tmod_lt_of_pos a hm
  rw [Int.mul_comm] at h1 h2
  generalize a.tdiv m = q at *
  generalize a / m = r at *
  generalize a.tmod m = s at *
  have hd : (q - r) * m = a % m - s := by rw [Int.sub_mul]; omega
  split
  · rename_i h
    have hs : s < 0 := by omega
    have e : q - r = 1 := by
      rcases Int.lt_trichotomy (q - r) 1 with h3 | h3 | h3
      · have := Int.mul_le_mul_of_nonneg_right (show q - r ≤ 0 by omega) (show 0 ≤ m by omega); omega
      · exact h3
      · have := Int.mul_le_mul_of_nonneg_right (show 2 ≤ q - r by omega) (show 0 ≤ m by omega); omega
    omega
  · rename_i h
    have e : q - r = 0 := by
      rcases Int.lt_trichotomy (q - r) 0 with h3 | h3 | h3
      · have := Int.mul_le_mul_of_nonneg_right (show q - r ≤ -1 by omega) (show 0 ≤ m by omega); omega
      · exact h3
      · have := Int.mul_le_mul_of_nonneg_right (show 1 ≤ q - r by omega) (show 0 ≤ m by omega); omega
    omega
theorem floor_prog {a m : Int} (hm : 0 < m) : (a - RS a m).tdiv m = a / m := by
  have h2 := Int.emod_add_mul_ediv a m
  have e : a - RS a m = m * (a / m) := by unfold RS; omega
  rw [e, Int.mul_tdiv_cancel_left _ (by omega)]
theorem rscL_len (f : Int) (l : List Int) (b : Int) : (rscL f l b).length = l.length := tab_len _ _
end Go.Proofs.YtoonpnfhcmghmabDoor
namespace Go.Proofs.YtoonpnfhcmghmabDoor
theorem len_mOddValues (f : Int) (l : List Int) (n : l.length ≤ 1048576) : (mOddValues f l).length ≤ 1048576 := by
  unfold mOddValues; split
  · rw [ovL_len]; exact n
  · exact Nat.zero_le _
theorem len_mOddBack (f : Int) (l : List Int) (n : l.length ≤ 1048576) : (mOddBack f l).length ≤ 1048576 := by
  unfold mOddBack; split
  · rw [obL_len]; exact n
  · exact Nat.zero_le _
theorem len_mRingInverse0 (f : Int) (l : List Int) (n : l.length ≤ 1048576) : (mRingInverse0 f l).length ≤ 1048576 := by
  unfold mRingInverse0; split
  · rw [obL_len, bivL_len, ovL_len]; exact n
  · exact Nat.zero_le _
theorem len_mRescale0 (f : Int) (l : List Int) (b : Int) (n : l.length ≤ 1048576) : (mRescale0 f l b).length ≤ 1048576 := by
  unfold mRescale0; split
  · rw [rscL_len]; exact n
  · exact Nat.zero_le _
end Go.Proofs.YtoonpnfhcmghmabDoor
namespace Go.Proofs.YtoonpnfhcmghmabDoor
open Go.RowKit
theorem emod_le8 {x m : Int} (h : 0 ≤ x) (hm : 0 < m) : x % m ≤ x := by
  have h1 := Int.emod_add_mul_ediv x m
  have h2 := Int.mul_nonneg (Int.le_of_lt hm) (Int.ediv_nonneg h (Int.le_of_lt hm))
  omega
theorem resc_num {f x b E Q : Int} (h0 : 0 ≤ f) (h8 : f ≤ 8) (hx : 0 ≤ x ∧ x < P f) (hb : 1 ≤ b ∧ b ≤ P f) (hE : cenF f x = E) (hQ : (2 * E + b).tdiv (2 * b) = Q) :
    (-4000000000 ≤ Q ∧ Q ≤ 4000000000) ∧ (-4000000000 ≤ 2 * Q * b ∧ 2 * Q * b ≤ 4000000000) ∧ (2 * E + b < 2 * Q * b → rsF f b x = RS (Q - 1) (P f)) ∧ (¬ (2 * E + b < 2 * Q * b) → rsF f b x = RS Q (P f)) := by
  have hp := P_bd h0 h8
  obtain ⟨c1, c2, _⟩ := cen_bd h0 h8 hx
  have hf := floor_spec (a := 2 * E + b) (m := 2 * b) (by omega)
  unfold rsF
  rw [hE] at c1 c2 ⊢
  rw [hQ] at hf
  have h1 := Int.mul_tdiv_add_tmod (2 * E + b) (2 * b)
  rw [hQ] at h1
  have e1 : 2 * Q * b = 2 * b * Q := by rw [Int.mul_assoc, Int.mul_comm Q b, ← Int.mul_assoc]
  have e2 : Q * (2 * b) = 2 * b * Q := Int.mul_comm _ _
  rw [e1]
  rw [e2] at hf
  have hs : (0 ≤ 2 * E + b → 0 ≤ (2 * E + b).tmod (2 * b) ∧ (2 * E + b).tmod (2 * b) ≤ 2 * E + b) ∧ (2 * E + b ≤ 0 → (2 * E + b).tmod (2 * b) ≤ 0 ∧ 2 * E + b ≤ (2 * E + b).tmod (2 * b)) := by
    refine ⟨fun h => ?_, fun h => ?_⟩
    · rw [Int.tmod_eq_emod_of_nonneg h]
      exact ⟨Int.emod_nonneg _ (by omega), emod_le8 h (by omega)⟩
    · have e : (2 * E + b).tmod (2 * b) = - ((-(2 * E + b)).tmod (2 * b)) := by rw [Int.neg_tmod, Int.neg_neg]
      rw [e, Int.tmod_eq_emod_of_nonneg (by omega)]
      have h3 := Int.emod_nonneg (-(2 * E + b)) (b := 2 * b) (by omega)
      have h4 : (-(2 * E + b)) % (2 * b) ≤ -(2 * E + b) := emod_le8 (by omega) (by omega)
      omega
  generalize (2 * E + b).tmod (2 * b) = T at *
  have hbd : -4000000000 ≤ 2 * b * Q ∧ 2 * b * Q ≤ 4000000000 := by omega
  refine ⟨?_, hbd, fun h => ?_, fun h => ?_⟩
  · have g1 : 2 * b * Q = 2 * (b * Q) := Int.mul_assoc _ _ _
    by_cases hq : 0 ≤ Q
    · have := Int.mul_le_mul_of_nonneg_right hb.1 hq
      omega
    · have := Int.mul_le_mul_of_nonpos_right hb.1 (show Q ≤ 0 by omega)
      omega
  · rw [if_pos h] at hf
    rw [← hf]
  · rw [if_neg h] at hf
    rw [← hf]
set_option maxRecDepth 100000 in
set_option maxHeartbeats 3200000 in
theorem sRescale_on (f bb : Int) (a : Option Addr) (l : List Int) (cap : Nat) (w : World) (hn : l.length ≤ 1048576) (hs : Src w a l.length (lf l)) (h : VecOk f l) (hb : 1 ≤ bb ∧ bb ≤ P f) : Calls Tryd.prog 34 #[.int .i64 f, .slice a l.length cap, .int .i64 bb] w (ListLB w (rscL f l bb) true) := by
  obtain ⟨i0, hi, hz0, hz1, hz2⟩ := info_parts info3
  have HI := Lib.hid hi
  have HZ0 := Lib.hid hz0
  have HZ1 := Lib.hid hz1
  have HZ2 := Lib.hid hz2
  clear hi hz0 hz1 hz2
  have BA : Hid (∀ o, Below w.heap.size w (w.alloc o)) := Lib.hid fun o => (Below.refl _ _).alloc (Nat.le_refl _) o
  have HV : Hid (∀ w2, Below w.heap.size w w2 → Calls Tryd.prog 50 #[.int .i64 f, .slice a l.length cap] w2 (SameB w2 true)) := Lib.hid fun w2 hb => by
    have R1 := sVectorOk f a l cap w2 hn (hs.keep hb)
    rwa [vok_iff.2 h] at R1
  have HIN : Hid (∀ w2, Calls Tryd.prog 54 #[.int .i64 bb, .int .i64 1, .int .i64 (P f)] w2 fun e w' => e = .returned (.bool true) ∧ w2 = w') := Lib.hid fun w2 => in_yes bb 1 (P f) w2 hb.1 hb.2
  have hn0 := h.pos.1
  have hn5 := h.pos.2
  have h08 := h.f08
  have hp := P_bd h08.1 h08.2
  have HA := Lib.hid h.lt
  obtain ⟨b, off, rfl, hlt, hc⟩ := vec_some hs hn0
  have HC := Lib.hid hc
  have HF : Hid (∀ v W, W.ownsRow w.heap.size 3 1 v l.length (xsF (fun i => rsF f bb (lf l i)) l.length) → Below w.heap.size w W → ListLB w (rscL f l bb) true (.returned (.tuple #[v, .bool true])) W) := Lib.hid fun v W ho hb => by
    obtain ⟨a2, c2, he, hs2, hb2⟩ := (owns_to (w := w) (l := rscL f l bb) ho (rscL_len _ _ _).symm (fun j hj => by unfold rscL; rw [lf_tab, if_pos hj]) hb).list
    cases he
    exact ⟨a2, c2, rfl, hs2, hb2⟩
  have HRN : Hid (∀ j E Q, cenF f (lf l j) = E → (2 * E + bb).tdiv (2 * bb) = Q → (-4000000000 ≤ Q ∧ Q ≤ 4000000000) ∧ (-4000000000 ≤ 2 * Q * bb ∧ 2 * Q * bb ≤ 4000000000) ∧ (2 * E + bb < 2 * Q * bb → rsF f bb (lf l j) = RS (Q - 1) (P f)) ∧ (¬ (2 * E + bb < 2 * Q * bb) → rsF f bb (lf l j) = RS Q (P f))) := Lib.hid fun j E Q hE hQ => resc_num h08.1 h08.2 (h.lt j) hb hE hQ
  have HCE : Hid (∀ j, (P f - lf l j < lf l j → cenF f (lf l j) = lf l j - P f) ∧ (¬ P f - lf l j < lf l j → cenF f (lf l j) = lf l j)) := Lib.hid fun j => ⟨fun h => if_pos h, fun h => if_neg h⟩
  have HX := Lib.hid (xsF_succ (fun i => rsF f bb (lf l i)))
  have HRD : Hid (∀ q, mReduce f q = RS q (P f)) := Lib.hid fun q => by unfold mReduce; rw [if_pos h08]
  clear hs hc h
  generalize rscL f l bb = OL at *
  generalize lf l = A at *
  generalize l.length = n at *
  have kz : ((2 * bb) == 0) = false := by rw [beq_eq_false_iff_ne]; omega
  have kz2 : ¬ (2 * bb) = 0 := by omega
  go_enter Tryd.func34, Tryd.ntmps34
  go_wp2_with fail
  refine (sModulus f _).mono ?_
  rintro e w' ⟨rfl, rfl⟩
  go_wp2_with fail
  refine (HV.out _ (BA.out _)).mono ?_
  rintro e w' ⟨rfl, rfl⟩
  go_wp2_with fail
  refine (HIN.out _).mono ?_
  rintro e w' ⟨rfl, rfl⟩
  clear HV HIN
  go_wp2_with fail
  go_loopw [8, 10, 11, 12] (fun v i _ _ wr => ∃ k : Nat, i = .int .i64 k ∧ k ≤ n ∧ wr.ownsRow w.heap.size 3 1 v k (xsF (fun i => rsF f bb (A i)) k) ∧ Below w.heap.size w wr) (fun _ i _ _ _ => n - (intOf i).toNat)
  case atStart => exact ⟨0, rfl, Nat.zero_le _, own_empty w _, BA.out _⟩
  case round =>
    obtain ⟨k, rfl, hk, hown, hnx⟩ := hrel
    have hs := hnx.size
    by_cases h1 : k < n
    · have hd1 : decide ((k : Int) < n) = true := decide_eq_true (by omega)
      have c1 : wr.cell? ⟨b, off + k, none⟩ = some (.int .i64 (A k)) := (hnx.cell (p := ⟨b, off + k, none⟩) hlt).trans (HC.out k h1)
      have hA := HA.out k
      have hR := HRN.out k
      have hE := HCE.out k
      have HK : Hid (∀ (w' : World) (v' : Value) (q : Int), q = rsF f bb (A k) → w'.ownsRow w.heap.size 3 1 v' (k + 1) (xsF (fun i => rsF f bb (A i)) k ++ [.int .i64 q]) → w'.ownsRow w.heap.size 3 1 v' (k + 1) (xsF (fun i => rsF f bb (A i)) (k + 1))) := Lib.hid fun w' v' q hq h => by rw [← HX.out k, ← hq]; exact h
      generalize xsF (fun i => rsF f bb (A i)) k = XS at *
      generalize hr : rsF f bb (A k) = R at *
      clear hr
      generalize A k = x at *
      by_cases hx : P f - x < x
      · have hdx : decide (P f - x < x) = true := decide_eq_true hx
        obtain ⟨Q, hQ⟩ : ∃ Q, (2 * (x - P f) + bb).tdiv (2 * bb) = Q := ⟨_, rfl⟩
        obtain ⟨r1, r2, r3, r4⟩ := hR _ Q (hE.1 hx) hQ
        have qz : IntKind.i64.wrap (2 * Q * bb) = 2 * Q * bb := IntWalk.i64_in _ (by omega)
        by_cases hz : 2 * (x - P f) + bb < 2 * Q * bb
        · have hdz : decide (2 * (x - P f) + bb < 2 * Q * bb) = true := decide_eq_true hz
          have HRR := Lib.hid (r3 hz)
          clear hR hE r3 r4
          go_wp2_with fail
          refine (sReduce f (Q - 1) wr).mono ?_
          rintro e w' ⟨rfl, rfl⟩
          rw [HRD.out, ← HRR.out]
          go_wp2_with (at_builtin; refine wpList_append_own _ rfl _ _ 22 rfl w.heap.size 3 i0 (.int .i64 0) 1 8 Tryd.underlying22 HI.out HZ0.out HZ1.out HZ2.out rfl (by decide) _ _ _ rfl (hown.alloc _) ⟨wr.heap.size, 0, none⟩ 1 1 [.int .i64 R] rfl rfl ?c1 ?c2 ?c3 ?c4 ?c5 ?_)
          case c1 => exact cell_one_new _ _ _
          case c2 => first | rfl | (intro u hu; simp at hu; subst hu; rfl)
          case c3 => unfold maxLen; omega
          case c4 => omega
          case c5 => first | omega | (simp; omega)
          intro v' w1 hown' hgrow _
          have hbel : Below w.heap.size w w1 := (hnx.alloc hs _).grown hgrow (by simp; omega) (own_ge hown)
          have hown2 := HK.out w1 v' R rfl hown'
          clear hgrow hown hown' HK
          go_wp2
          go_roundw
          case rel => exact ⟨k + 1, by go_num, by omega, hown2, hbel⟩
          case measure => simp [intOf]; omega
        · have hdz : decide (2 * (x - P f) + bb < 2 * Q * bb) = false := decide_eq_false hz
          have HRR := Lib.hid (r4 (by omega))
          clear hR hE r3 r4
          go_wp2_with fail
          refine (sReduce f Q wr).mono ?_
          rintro e w' ⟨rfl, rfl⟩
          rw [HRD.out, ← HRR.out]
          go_wp2_with (at_builtin; refine wpList_append_own _ rfl _ _ 22 rfl w.heap.size 3 i0 (.int .i64 0) 1 8 Tryd.underlying22 HI.out HZ0.out HZ1.out HZ2.out rfl (by decide) _ _ _ rfl (hown.alloc _) ⟨wr.heap.size, 0, none⟩ 1 1 [.int .i64 R] rfl rfl ?c1 ?c2 ?c3 ?c4 ?c5 ?_)
          case c1 => exact cell_one_new _ _ _
          case c2 => first | rfl | (intro u hu; simp at hu; subst hu; rfl)
          case c3 => unfold maxLen; omega
          case c4 => omega
          case c5 => first | omega | (simp; omega)
          intro v' w1 hown' hgrow _
          have hbel : Below w.heap.size w w1 := (hnx.alloc hs _).grown hgrow (by simp; omega) (own_ge hown)
          have hown2 := HK.out w1 v' R rfl hown'
          clear hgrow hown hown' HK
          go_wp2
          go_roundw
          case rel => exact ⟨k + 1, by go_num, by omega, hown2, hbel⟩
          case measure => simp [intOf]; omega
      · have hdx : decide (P f - x < x) = false := decide_eq_false hx
        obtain ⟨Q, hQ⟩ : ∃ Q, (2 * x + bb).tdiv (2 * bb) = Q := ⟨_, rfl⟩
        obtain ⟨r1, r2, r3, r4⟩ := hR _ Q (hE.2 (by omega)) hQ
        have qz : IntKind.i64.wrap (2 * Q * bb) = 2 * Q * bb := IntWalk.i64_in _ (by omega)
        by_cases hz : 2 * x + bb < 2 * Q * bb
        · have hdz : decide (2 * x + bb < 2 * Q * bb) = true := decide_eq_true hz
          have HRR := Lib.hid (r3 hz)
          clear hR hE r3 r4
          go_wp2_with fail
          refine (sReduce f (Q - 1) wr).mono ?_
          rintro e w' ⟨rfl, rfl⟩
          rw [HRD.out, ← HRR.out]
          go_wp2_with (at_builtin; refine wpList_append_own _ rfl _ _ 22 rfl w.heap.size 3 i0 (.int .i64 0) 1 8 Tryd.underlying22 HI.out HZ0.out HZ1.out HZ2.out rfl (by decide) _ _ _ rfl (hown.alloc _) ⟨wr.heap.size, 0, none⟩ 1 1 [.int .i64 R] rfl rfl ?c1 ?c2 ?c3 ?c4 ?c5 ?_)
          case c1 => exact cell_one_new _ _ _
          case c2 => first | rfl | (intro u hu; simp at hu; subst hu; rfl)
          case c3 => unfold maxLen; omega
          case c4 => omega
          case c5 => first | omega | (simp; omega)
          intro v' w1 hown' hgrow _
          have hbel : Below w.heap.size w w1 := (hnx.alloc hs _).grown hgrow (by simp; omega) (own_ge hown)
          have hown2 := HK.out w1 v' R rfl hown'
          clear hgrow hown hown' HK
          go_wp2
          go_roundw
          case rel => exact ⟨k + 1, by go_num, by omega, hown2, hbel⟩
          case measure => simp [intOf]; omega
        · have hdz : decide (2 * x + bb < 2 * Q * bb) = false := decide_eq_false hz
          have HRR := Lib.hid (r4 (by omega))
          clear hR hE r3 r4
          go_wp2_with fail
          refine (sReduce f Q wr).mono ?_
          rintro e w' ⟨rfl, rfl⟩
          rw [HRD.out, ← HRR.out]
          go_wp2_with (at_builtin; refine wpList_append_own _ rfl _ _ 22 rfl w.heap.size 3 i0 (.int .i64 0) 1 8 Tryd.underlying22 HI.out HZ0.out HZ1.out HZ2.out rfl (by decide) _ _ _ rfl (hown.alloc _) ⟨wr.heap.size, 0, none⟩ 1 1 [.int .i64 R] rfl rfl ?c1 ?c2 ?c3 ?c4 ?c5 ?_)
          case c1 => exact cell_one_new _ _ _
          case c2 => first | rfl | (intro u hu; simp at hu; subst hu; rfl)
          case c3 => unfold maxLen; omega
          case c4 => omega
          case c5 => first | omega | (simp; omega)
          intro v' w1 hown' hgrow _
          have hbel : Below w.heap.size w w1 := (hnx.alloc hs _).grown hgrow (by simp; omega) (own_ge hown)
          have hown2 := HK.out w1 v' R rfl hown'
          clear hgrow hown hown' HK
          go_wp2
          go_roundw
          case rel => exact ⟨k + 1, by go_num, by omega, hown2, hbel⟩
          case measure => simp [intOf]; omega
    · have hd1 : decide ((k : Int) < n) = false := decide_eq_false (by omega)
      obtain rfl : k = n := by omega
      have HO := Lib.hid (HF.out _ wr hown hnx)
      clear hown
      go_wp2
      go_ret2
      exact HO.out
theorem sRescale (f : Int) (a : Option Addr) (l : List Int) (cap : Nat) (bb : Int) (w : World) (hn : l.length ≤ 1048576) (hs : Src w a l.length (lf l)) : Calls Tryd.prog 34 #[.int .i64 f, .slice a l.length cap, .int .i64 bb] w (ListLB w (mRescale0 f l bb) (mRescale1 f l bb)) := by
  have BA : Hid (∀ o, Below w.heap.size w (w.alloc o)) := Lib.hid fun o => (Below.refl _ _).alloc (Nat.le_refl _) o
  by_cases h : VecOk f l
  · by_cases hb : 1 ≤ bb ∧ bb ≤ P f
    · have h0 : mRescale0 f l bb = rscL f l bb := by unfold mRescale0; rw [if_pos ⟨h, hb⟩]
      have h1 : mRescale1 f l bb = true := by simp only [mRescale1, decide_eq_true_eq]; exact ⟨h, hb⟩
      rw [h0, h1]
      exact sRescale_on f bb a l cap w hn hs h hb
    · have h0 : mRescale0 f l bb = [] := by unfold mRescale0; rw [if_neg fun x => hb x.2]
      have h1 : mRescale1 f l bb = false := by simp only [mRescale1, decide_eq_false_iff_not]; exact fun x => hb x.2
      rw [h0, h1]
      have HV : Hid (∀ w2, Below w.heap.size w w2 → Calls Tryd.prog 50 #[.int .i64 f, .slice a l.length cap] w2 (SameB w2 true)) := Lib.hid fun w2 hb => by
        have R1 := sVectorOk f a l cap w2 hn (hs.keep hb)
        rwa [vok_iff.2 h] at R1
      have HIN : Hid (∀ w2, Calls Tryd.prog 54 #[.int .i64 bb, .int .i64 1, .int .i64 (P f)] w2 fun e w' => e = .returned (.bool false) ∧ w2 = w') := Lib.hid fun w2 => in_no bb 1 (P f) w2 (by omega)
      clear hs h hb h0 h1
      go_enter Tryd.func34, Tryd.ntmps34
      go_wp2_with fail
      refine (sModulus f _).mono ?_
      rintro e w' ⟨rfl, rfl⟩
      go_wp2_with fail
      refine (HV.out _ (BA.out _)).mono ?_
      rintro e w' ⟨rfl, rfl⟩
      go_wp2_with fail
      refine (HIN.out _).mono ?_
      rintro e w' ⟨rfl, rfl⟩
      go_wp2
      go_ret2
      exact ⟨none, 0, rfl, .inl rfl, BA.out _⟩
  · have h0 : mRescale0 f l bb = [] := by unfold mRescale0; rw [if_neg fun x => h x.1]
    have h1 : mRescale1 f l bb = false := by simp only [mRescale1, decide_eq_false_iff_not]; exact fun x => h x.1
    rw [h0, h1]
    have HV : Hid (∀ w2, Below w.heap.size w w2 → Calls Tryd.prog 50 #[.int .i64 f, .slice a l.length cap] w2 (SameB w2 false)) := Lib.hid fun w2 hb => by
      have R1 := sVectorOk f a l cap w2 hn (hs.keep hb)
      rwa [vok_not.2 h] at R1
    clear hs h h0 h1
    go_enter Tryd.func34, Tryd.ntmps34
    go_wp2_with fail
    refine (sModulus f _).mono ?_
    rintro e w' ⟨rfl, rfl⟩
    go_wp2_with fail
    refine (HV.out _ (BA.out _)).mono ?_
    rintro e w' ⟨rfl, rfl⟩
    go_wp2
    go_ret2
    exact ⟨none, 0, rfl, .inl rfl, BA.out _⟩
end Go.Proofs.YtoonpnfhcmghmabDoor
namespace Go.Proofs.YtoonpnfhcmghmabDoor
open Go.RowKit
theorem residueB_c (x m : Int) (w : World) (hm : 0 < m) (hm2 : m ≤ 4000000000) : Calls Tryd.prog 91 #[.int .i64 x, .int .i64 m] w fun e w' => e = .returned (.int .i64 (RS x m)) ∧ w = w' := by
  have b1 := Int.lt_tmod_of_pos x hm
  have b2 := Int.tmod_lt_of_pos x hm
  go_enter Tryd.func91, Tryd.ntmps91
  go_wp2
  · go_ret
    exact ⟨ret_int (rs_neg hm ‹_›), rfl⟩
  · go_ret
    exact ⟨ret_int (rs_pos hm ‹_›), rfl⟩
theorem nearZero_c (f x : Int) (w : World) (h08 : 0 ≤ f ∧ f ≤ 8) (hx : 0 ≤ x ∧ x < P f) : Calls Tryd.prog 69 #[.int .i64 x, .int .i64 (P f)] w fun e w' => e = .returned (.int .i64 (cenF f x)) ∧ w = w' := by
  have hp := P_bd h08.1 h08.2
  have ho := P_odd h08.1 h08.2
  have td : (P f).tdiv 2 = P f / 2 := Int.tdiv_eq_ediv_of_nonneg (by omega)
  by_cases h : P f / 2 < x
  · have HC : Hid (cenF f x = x - P f) := Lib.hid (by unfold cenF; rw [if_pos (by omega)])
    have hd : decide (P f / 2 < x) = true := decide_eq_true h
    clear ho
    generalize P f = p at *
    go_enter Tryd.func69, Tryd.ntmps69
    go_wp2
    go_ret
    exact ⟨ret_int HC.out.symm, rfl⟩
  · have HC : Hid (cenF f x = x) := Lib.hid (by unfold cenF; rw [if_neg (by omega)])
    have hd : decide (P f / 2 < x) = false := decide_eq_false h
    clear ho
    generalize P f = p at *
    go_enter Tryd.func69, Tryd.ntmps69
    go_wp2
    go_ret
    exact ⟨ret_int HC.out.symm, rfl⟩
theorem nearest_c (a b : Int) (w : World) (ha : -2000000000 ≤ a ∧ a ≤ 2000000000) (hb : 1 ≤ b ∧ b ≤ 1500000000) : Calls Tryd.prog 68 #[.int .i64 a, .int .i64 b] w fun e w' => e = .returned (.int .i64 ((2 * a + b) / (2 * b))) ∧ w = w' := by
  have hr := RS_bd (x := 2 * a + b) (m := 2 * b) (by omega)
  have HF := Lib.hid (floor_prog (a := 2 * a + b) (m := 2 * b) (by omega))
  have q1 : IntKind.i64.wrap (2 * a + b - RS (2 * a + b) (2 * b)) = 2 * a + b - RS (2 * a + b) (2 * b) := IntWalk.i64_in _ (by omega)
  have hbd : -8000000000 ≤ (2 * a + b) / (2 * b) ∧ (2 * a + b) / (2 * b) ≤ 8000000000 := by
    have h2 := Int.emod_add_mul_ediv (2 * a + b) (2 * b)
    have b1 := Int.emod_nonneg (2 * a + b) (b := 2 * b) (by omega)
    have b2 := Int.emod_lt_of_pos (2 * a + b) (b := 2 * b) (by omega)
    generalize (2 * a + b) / (2 * b) = q at *
    constructor
    · rcases Int.lt_or_le q 0 with hq | hq
      · have := Int.mul_le_mul_of_nonpos_right (show (2 : Int) ≤ 2 * b by omega) (show q ≤ 0 by omega)
        omega
      · omega
    · rcases Int.lt_or_le 0 q with hq | hq
      · have := Int.mul_le_mul_of_nonneg_right (show (2 : Int) ≤ 2 * b by omega) (show 0 ≤ q by omega)
        omega
      · omega
  have kz : ((2 * b) == 0) = false := by rw [beq_eq_false_iff_ne]; omega
  have kz2 : ¬ (2 * b) = 0 := by omega
  go_enter Tryd.func68, Tryd.ntmps68
  go_wp2_with fail
  refine (residueB_c (2 * a + b) (2 * b) w (by omega) (by omega)).mono ?_
  rintro e w' ⟨rfl, rfl⟩
  have HX : Hid (IntKind.i64.wrap ((2 * a + b - RS (2 * a + b) (2 * b)).tdiv (2 * b)) = (2 * a + b) / (2 * b)) := Lib.hid (by rw [HF.out]; exact IntWalk.i64_in _ (by omega))
  have hx := HX.out
  have hf := HF.out
  generalize RS (2 * a + b) (2 * b) = r at *
  generalize hQ : (2 * a + b) / (2 * b) = Q at *
  have HQ := Lib.hid hQ
  clear hQ
  go_wp2
  go_ret
  exact ⟨ret_int HQ.out.symm, rfl⟩
set_option maxRecDepth 100000 in
set_option maxHeartbeats 1600000 in
theorem iRescale_on (f bb : Int) (b off n cap : Nat) (A : Nat → Int) (w : World) (ht : Tab w) (HV : Hid (Calls Tryd.prog 51 #[.int .i64 f, .slice (some ⟨b, off, none⟩) n cap] w (SameB w true))) (h08 : 0 ≤ f ∧ f ≤ 8) (hA : ∀ j, 0 ≤ A j ∧ A j < P f) (hn : n ≤ 512) (hb : 1 ≤ bb ∧ bb ≤ P f) (hlt : b < w.heap.size) (hc : ∀ j, j < n → w.cell? ⟨b, off + j, none⟩ = some (.int .i64 (A j))) :
    Calls Tryd.prog 35 #[.int .i64 f, .slice (some ⟨b, off, none⟩) n cap, .int .i64 bb] w (fun e w' => e = .returned (.tuple #[.slice (some ⟨w.heap.size, 0, none⟩) n n, .bool true]) ∧ Own w' w.heap.size n (fun j => rsF f bb (A j)) ∧ Below w.heap.size w w') := by
  have HC := Lib.hid hc
  have HA := Lib.hid hA
  have HT : Hid (∀ W, Below w.heap.size w W → Tab W) := Lib.hid fun W hb => ht.below hb
  have HMO := Lib.hid (iModulus f w ht)
  have hp := P_bd h08.1 h08.2
  have d1 : decide (bb < 1) = false := decide_eq_false (by omega)
  have d2 : decide (P f < bb) = false := decide_eq_false (by omega)
  have HCB : Hid (∀ j, -2000000000 ≤ cenF f (A j) ∧ cenF f (A j) ≤ 2000000000) := Lib.hid fun j => by
    have := cen_bd h08.1 h08.2 (hA j)
    omega
  clear hc hA ht
  have hmk := made_n n (by omega)
  go_enter Tryd.func35, Tryd.ntmps35
  go_wp2_with fail
  refine HV.out.mono ?_
  rintro e w' ⟨rfl, rfl⟩
  clear HV
  go_wp2_with fail
  refine HMO.out.mono ?_
  rintro e w' ⟨rfl, rfl⟩
  go_wp2_with fail
  clear hmk
  go_loopw [10, 11, 32] (fun _ _ i wr => ∃ j : Nat, i = .int .i64 j ∧ j ≤ n ∧ Own wr w.heap.size n (fun x => if x < j then rsF f bb (A x) else 0) ∧ Below w.heap.size w wr) (fun _ _ i _ => n - (intOf i).toNat)
  case atStart =>
    refine ⟨0, rfl, Nat.zero_le _, ?_, (Below.refl _ _).alloc (Nat.le_refl _) _⟩
    exact (World.rowIs_made w (.int .i64 0) n 3).congr fun j _ => by simp
  case round =>
    obtain ⟨j, rfl, hj, ho, hnb⟩ := hrel
    by_cases h1 : j < n
    · have c1 : wr.cell? ⟨b, off + j, none⟩ = some (.int .i64 (A j)) := (hnb.cell (p := ⟨b, off + j, none⟩) hlt).trans (HC.out j h1)
      have hd1 : decide ((j : Int) < n) = true := decide_eq_true (by omega)
      have HS := Lib.hid (copy_set (w := w) (F := fun x => rsF f bb (A x)) ho)
      have c3 := World.rowIs.cell ho h1
      have c4 := World.rowIs.frozen ho j
      have hAj := HA.out j
      have hCj := HCB.out j
      have HR : Hid (RS ((2 * cenF f (A j) + bb) / (2 * bb)) (P f) = rsF f bb (A j)) := Lib.hid rfl
      clear ho
      go_wp2_with fail
      refine (prime_c f wr (HT.out _ hnb) h08.1 h08.2).mono ?_
      rintro e w' ⟨rfl, rfl⟩
      go_wp2_with fail
      refine (nearZero_c f (A j) wr h08 hAj).mono ?_
      rintro e w' ⟨rfl, rfl⟩
      go_wp2_with fail
      refine (nearest_c (cenF f (A j)) bb wr hCj ⟨by omega, by omega⟩).mono ?_
      rintro e w' ⟨rfl, rfl⟩
      go_wp2_with fail
      refine (reduce_c f ((2 * cenF f (A j) + bb) / (2 * bb)) wr (HT.out _ hnb) h08.1 h08.2).mono ?_
      rintro e w' ⟨rfl, rfl⟩
      rw [HR.out]
      go_wp2
      go_roundw
      case rel => exact ⟨j + 1, by go_num, by omega, HS.out, hnb.setCell (Nat.le_refl _) _⟩
      case measure => simp [intOf]; omega
    · have hd : decide (j < n) = false := by simpa using h1
      obtain rfl : j = n := by omega
      go_wp2
      go_ret2
      exact ⟨rfl, World.rowIs.congr ho (fun x hx => by simp [hx]), hnb⟩
theorem iRescale (f : Int) (a : Option Addr) (l : List Int) (cap : Nat) (bb : Int) (w : World) (hn : l.length ≤ 1048576) (hs : Src w a l.length (lf l)) (ht : Tab w) : Calls Tryd.prog 35 #[.int .i64 f, .slice a l.length cap, .int .i64 bb] w (OwnLB w (mRescale0 f l bb) (mRescale1 f l bb)) := by
  have hV := iVectorOk f a l cap w hn hs ht
  by_cases h : VecOk f l
  · rw [vok_iff.2 h] at hV
    by_cases hb : 1 ≤ bb ∧ bb ≤ P f
    · have h0 : mRescale0 f l bb = rscL f l bb := by unfold mRescale0; rw [if_pos ⟨h, hb⟩]
      have h1 : mRescale1 f l bb = true := by simp only [mRescale1, decide_eq_true_eq]; exact ⟨h, hb⟩
      rw [h0, h1]
      obtain ⟨b, off, rfl, hlt, hc⟩ := vec_some hs h.pos.1
      refine (iRescale_on f bb b off l.length cap (lf l) w ht (Lib.hid hV) h.f08 h.lt h.pos.2 hb hlt hc).mono ?_
      rintro e w' ⟨rfl, ho, hbl⟩
      have hl := rscL_len f l bb
      exact ⟨_, l.length, by rw [hl], OwnA.of ho hl.symm (Nat.le_refl _) (fun j hj => by unfold rscL; rw [lf_tab, if_pos hj]), hbl⟩
    · have h0 : mRescale0 f l bb = [] := by unfold mRescale0; rw [if_neg fun x => hb x.2]
      have h1 : mRescale1 f l bb = false := by simp only [mRescale1, decide_eq_false_iff_not]; exact fun x => hb x.2
      rw [h0, h1]
      have HV := Lib.hid hV
      by_cases hb1 : bb < 1
      · have d1 : decide (bb < 1) = true := decide_eq_true hb1
        clear hs h hb h0 h1 hV
        go_enter Tryd.func35, Tryd.ntmps35
        go_wp2_with fail
        refine HV.out.mono ?_
        rintro e w' ⟨rfl, rfl⟩
        go_wp2
        go_ret2
        exact ⟨none, 0, rfl, OwnA.nil rfl, Below.refl _ _⟩
      · have d1 : decide (bb < 1) = false := decide_eq_false hb1
        have d2 : decide (P f < bb) = true := decide_eq_true (by omega)
        have HMO := Lib.hid (iModulus f w ht)
        clear hs h hb h0 h1 hV
        generalize P f = p at *
        go_enter Tryd.func35, Tryd.ntmps35
        go_wp2_with fail
        refine HV.out.mono ?_
        rintro e w' ⟨rfl, rfl⟩
        go_wp2_with fail
        refine HMO.out.mono ?_
        rintro e w' ⟨rfl, rfl⟩
        go_wp2
        go_ret2
        exact ⟨none, 0, rfl, OwnA.nil rfl, Below.refl _ _⟩
  · rw [vok_not.2 h] at hV
    have h0 : mRescale0 f l bb = [] := by unfold mRescale0; rw [if_neg fun x => h x.1]
    have h1 : mRescale1 f l bb = false := by simp only [mRescale1, decide_eq_false_iff_not]; exact fun x => h x.1
    rw [h0, h1]
    have HV := Lib.hid hV
    clear hs h h0 h1 hV
    go_enter Tryd.func35, Tryd.ntmps35
    go_wp2_with fail
    refine HV.out.mono ?_
    rintro e w' ⟨rfl, rfl⟩
    go_wp2
    go_ret2
    exact ⟨none, 0, rfl, OwnA.nil rfl, Below.refl _ _⟩
end Go.Proofs.YtoonpnfhcmghmabDoor
