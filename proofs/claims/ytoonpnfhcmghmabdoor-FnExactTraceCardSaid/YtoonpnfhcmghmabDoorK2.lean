/-
  Texts of the proofs of this seat, joined (part 2).
-/
import Derived.Deep.RegionHeld3
import Derived.Deep.AppendLies
import Derived.Deep.CutRange
import Derived.StillTailTactics
import Derived.Laws.EntriesVeiled
import Derived.Test.YtoonpnfhcmghmabDoorK1
namespace Go.Proofs.YtoonpnfhcmghmabDoor
theorem Ser.ok {f : Int} (hf : 0 ≤ f ∧ f ≤ 8) {n : Nat} {l : List Int} (h : Ser f n l) (n1 : 1 ≤ n) (n2 : n ≤ 64) : SerOk f l := ⟨hf, by rw [h.1]; exact ⟨n1, n2⟩, fun j _ => h.2 j⟩
end Go.Proofs.YtoonpnfhcmghmabDoor
namespace Go.Proofs.YtoonpnfhcmghmabDoor
theorem Ser.short {f : Int} {a x : List Int} (h : ShortOk f a) (hx : Ser f a.length x) : ShortOk f x := ⟨hx.ok h.1.1 h.1.2.1.1 h.1.2.1.2, by rw [hx.1]; exact h.2⟩
theorem IsLog.congr {p : Int} {n : Nat} {L M A B : Nat → Int} (h : IsLog p n L A) (hL : EqN p n M L) (hA : EqN p n B A) : IsLog p n M B := (hA.th.trans h).trans ((hL.th.mul hA).symm)
end Go.Proofs.YtoonpnfhcmghmabDoor
namespace Go.Proofs.YtoonpnfhcmghmabDoor
/-- A and c times B. -/
def mixS (A B : Nat → Int) (c : Int) : Nat → Int := fun i => A i + c * B i
theorem lf_cut_self (l : List Int) : lf (cutL l.length (lf l)) = lf l := funext fun j => by
  rw [lf_cutL]
  split
  · rfl
  · rw [lf_out l (by omega)]
end Go.Proofs.YtoonpnfhcmghmabDoor
namespace Go.Proofs.YtoonpnfhcmghmabDoor
open Go.RowKit
set_option maxRecDepth 100000 in
set_option maxHeartbeats 1600000 in
theorem mixed_some (f c : Int) (b off b2 off2 n cap cap2 : Nat) (A B : Nat → Int) (w : World) (ht : Tab w) (h0 : 0 ≤ f) (h8 : f ≤ 8) (c0 : 0 ≤ c) (c1 : c < P f) (hn : n ≤ 4096)
    (hA : ∀ j, 0 ≤ A j ∧ A j < P f) (hB : ∀ j, 0 ≤ B j ∧ B j < P f) (hlt : b < w.heap.size) (hlt2 : b2 < w.heap.size)
    (hc : ∀ j, j < n → w.cell? ⟨b, off + j, none⟩ = some (.int .i64 (A j))) (hc2 : ∀ j, j < n → w.cell? ⟨b2, off2 + j, none⟩ = some (.int .i64 (B j))) :
    Calls Tryd.prog 65 #[.int .i64 f, .slice (some ⟨b, off, none⟩) n cap, .slice (some ⟨b2, off2, none⟩) n cap2, .int .i64 c] w (OwnG w (elL f n (mixS A B c))) := by
  have HC := Lib.hid hc
  have HC2 := Lib.hid hc2
  have HA := Lib.hid hA
  have HB := Lib.hid hB
  clear hc hc2 hA hB
  have hp := P_bd h0 h8
  have hmk := made_n n (by omega)
  have HG : Hid (∀ wr, Own wr w.heap.size n (fun j => if j < n then RS (mixS A B c j) (P f) else 0) → Below w.heap.size w wr → OwnG w (elL f n (mixS A B c)) (.returned (.slice (some ⟨w.heap.size, 0, none⟩) n n)) wr) := Lib.hid fun wr ho hb => OwnG.of_own ho (elL_len _ _ _).symm (Nat.le_refl _) (fun j hj => by
    rw [lf_elL]) hb
  go_enter Tryd.func65, Tryd.ntmps65
  go_wp2_with fail
  clear hmk
  go_loopw [10, 11, 17] (fun _ _ i wr => ∃ k : Nat, i = .int .i64 k ∧ k ≤ n ∧ Own wr w.heap.size n (fun j => if j < k then RS (mixS A B c j) (P f) else 0) ∧ Below w.heap.size w wr) (fun _ _ i _ => n - (intOf i).toNat)
  case atStart =>
    refine ⟨0, rfl, Nat.zero_le _, ?_, (Below.refl _ _).alloc (Nat.le_refl _) _⟩
    exact (World.rowIs_made w (.int .i64 0) n 3).congr fun j _ => by simp
  case round =>
    obtain ⟨i, rfl, hi, ho, hb⟩ := hrel
    by_cases h1 : i < n
    · have d1 : wr.cell? ⟨b, off + i, none⟩ = some (.int .i64 (A i)) := (hb.cell (p := ⟨b, off + i, none⟩) hlt).trans (HC.out i h1)
      have d2 : wr.cell? ⟨b2, off2 + i, none⟩ = some (.int .i64 (B i)) := (hb.cell (p := ⟨b2, off2 + i, none⟩) hlt2).trans (HC2.out i h1)
      have bA := HA.out i
      have bB := HB.out i
      have pb := prod_bd h0 h8 c0 c1 bB.1 bB.2
      have c3 := World.rowIs.frozen ho i
      have c4 := World.rowIs.cell ho h1
      have HT := Lib.hid (ht.below hb)
      have HS := Lib.hid (own_step (F := fun j => RS (mixS A B c j) (P f)) ho)
      have HE : Hid (RS (A i + c * B i) (P f) = RS (mixS A B c i) (P f)) := Lib.hid rfl
      clear ho
      go_wp2_with fail
      refine (reduce_c f (A i + c * B i) wr HT.out h0 h8).mono ?_
      rintro e w' ⟨rfl, rfl⟩
      rw [HE.out]
      go_wp2
      go_roundw
      case rel => exact ⟨i + 1, by go_num, by omega, HS.out, hb.setCell (Nat.le_refl _) _⟩
      case measure => simp [intOf]; omega
    · have hd : decide (i < n) = false := by simpa using h1
      obtain rfl : i = n := by omega
      have HO := Lib.hid ho
      clear ho
      go_wp2
      go_ret
      exact HG.out wr HO.out hb
theorem mixed_c (f c : Int) (a a2 : Option Addr) (n cap cap2 : Nat) (A B : Nat → Int) (w : World) (ht : Tab w) (h0 : 0 ≤ f) (h8 : f ≤ 8) (c0 : 0 ≤ c) (c1 : c < P f) (n1 : 1 ≤ n) (hn : n ≤ 4096)
    (hA : ∀ j, 0 ≤ A j ∧ A j < P f) (hB : ∀ j, 0 ≤ B j ∧ B j < P f) (hs : Src w a n A) (hs2 : Src w a2 n B) :
    Calls Tryd.prog 65 #[.int .i64 f, .slice a n cap, .slice a2 n cap2, .int .i64 c] w (OwnG w (elL f n (mixS A B c))) := by
  rcases hs with h | ⟨b, off, rfl, hlt, hc⟩
  · omega
  rcases hs2 with h | ⟨b2, off2, rfl, hlt2, hc2⟩
  · omega
  exact mixed_some f c b off b2 off2 n cap cap2 A B w ht h0 h8 c0 c1 hn hA hB hlt hlt2 hc hc2
end Go.Proofs.YtoonpnfhcmghmabDoor
namespace Go.Proofs.YtoonpnfhcmghmabDoor
open Go.RowKit
/-- A list that is read, and its capacity. -/
def SrcC (w : World) (a : Option Addr) (n cap : Nat) (F : Nat → Int) : Prop := n ≤ cap ∧ Src w a n F
theorem SrcC.src {w : World} {a : Option Addr} {n cap : Nat} {F : Nat → Int} (h : SrcC w a n cap F) : Src w a n F := h.2
theorem SrcC.keep {w w' : World} {a : Option Addr} {n cap : Nat} {F : Nat → Int} (h : SrcC w a n cap F) (hb : Below w.heap.size w w') : SrcC w' a n cap F := ⟨h.1, h.2.keep hb⟩
end Go.Proofs.YtoonpnfhcmghmabDoor
namespace Go.Proofs.YtoonpnfhcmghmabDoor
/-- Horner's values: the quotient by x - y of a polynomial of n + 1 coefficients. -/
def dqS (y : Int) (A : Nat → Int) (n k : Nat) : Int := evN y (fun j => A (k + 1 + j)) (n - k)
theorem dqS_tl (y : Int) (A : Nat → Int) (n : Nat) : tl (dqS y A (n + 1)) = dqS y (tl A) n := funext fun k => by
  show evN y (fun j => A (k + 1 + 1 + j)) (n + 1 - (k + 1)) = evN y (fun j => A (k + 1 + j + 1)) (n - k)
  rw [show n + 1 - (k + 1) = n - k by omega]
  congr 1
  funext j
  rw [show k + 1 + 1 + j = k + 1 + j + 1 by omega]
theorem dqS_zero (y : Int) (A : Nat → Int) (n : Nat) : dqS y A n 0 = evN y (tl A) n := by
  unfold dqS
  rw [Nat.sub_zero]
  congr 1
  funext j
  show A (0 + 1 + j) = A (j + 1)
  rw [show 0 + 1 + j = j + 1 by omega]
theorem dqS_step (y : Int) (A : Nat → Int) {n k : Nat} (h : k < n) : dqS y A n k = A (k + 1) + y * dqS y A n (k + 1) := by
  unfold dqS
  obtain ⟨m, hm⟩ : ∃ m, n - k = m + 1 := ⟨n - k - 1, by omega⟩
  rw [hm, evN_succ, show n - (k + 1) = m by omega]
  congr 2
  congr 1
  funext j
  show A (k + 1 + (j + 1)) = A (k + 1 + 1 + j)
  rw [show k + 1 + (j + 1) = k + 1 + 1 + j by omega]
theorem dqS_end (y : Int) (A : Nat → Int) (n : Nat) : dqS y A n n = 0 := by
  unfold dqS
  rw [Nat.sub_self]
  rfl
theorem evN_dq (x y : Int) : ∀ (n : Nat) (A : Nat → Int), evN x A (n + 1) = evN y A (n + 1) + (x - y) * evN x (dqS y A n) n
  | 0, A => by
    rw [evN_succ, evN_succ]
    simp [evN, sumN]
  | n + 1, A => by
    rw [evN_succ, evN_succ y A, evN_dq x y n (tl A), evN_succ x (dqS y A (n + 1)), dqS_tl, dqS_zero]
    obtain ⟨E, hE⟩ : ∃ E, evN y (tl A) (n + 1) = E := ⟨_, rfl⟩
    obtain ⟨D, hD⟩ : ∃ D, evN x (dqS y (tl A) n) n = D := ⟨_, rfl⟩
    rw [hE, hD, Int.mul_add, Int.mul_add, Int.sub_mul, Int.sub_mul, Int.sub_mul, Int.mul_sub, ← Int.mul_assoc x x D, ← Int.mul_assoc x y D, ← Int.mul_assoc y x D, Int.mul_comm y x, Int.mul_assoc x x D, ← Int.mul_assoc x x D]
    omega
/-- The points are distinct in the field. -/
def DistinctS (f : Int) (X : Nat → Int) (n : Nat) : Prop := ∀ i j, i < n → j < n → i ≠ j → (X i - X j) % P f ≠ 0
theorem DistinctS.less {f : Int} {X : Nat → Int} {n m : Nat} (h : DistinctS f X n) (hm : m ≤ n) : DistinctS f X m := fun i j hi hj => h i j (by omega) (by omega)
/-- A polynomial of n coefficients that vanishes at n points. -/
theorem roots_zero {f : Int} (h0 : 0 ≤ f) (h8 : f ≤ 8) (X : Nat → Int) : ∀ (n : Nat) (A : Nat → Int), DistinctS f X n → (∀ i, i < n → evN (X i) A n % P f = 0) → ∀ j, j < n → A j % P f = 0
  | 0, _, _, _ => fun j hj => by omega
  | n + 1, A, hd, hz => by
    have hB : ∀ j, j < n → dqS (X n) A n j % P f = 0 := roots_zero h0 h8 X n (dqS (X n) A n) (hd.less (by omega)) fun i hi => by
      have h1 := hz i (by omega)
      have h2 := hz n (by omega)
      rw [evN_dq (X i) (X n) n A, Int.add_emod, h2, Int.zero_add, Int.emod_emod_of_dvd _ (Int.dvd_refl _)] at h1
      have h3 := cancelF h0 h8 (x := evN (X i) (dqS (X n) A n) n) (y := 0) (hd i n (by omega) (by omega) (by omega)) (by rw [h1, Int.mul_zero]; rfl)
      rw [h3]
      rfl
    have hB2 : ∀ j, j ≤ n → dqS (X n) A n j % P f = 0 := fun j hj => by
      by_cases e : j < n
      · exact hB j e
      · obtain rfl : j = n := by omega
        rw [dqS_end]
        rfl
    intro j hj
    cases j with
    | zero =>
      have h2 := hz n (by omega)
      have h3 := hB2 0 (Nat.zero_le _)
      rw [dqS_zero] at h3
      rw [evN_succ, Int.add_emod, Int.mul_emod, h3, Int.mul_zero, Int.zero_emod, Int.add_zero, Int.emod_emod_of_dvd _ (Int.dvd_refl _)] at h2
      exact h2
    | succ k =>
      have h1 := dqS_step (X n) A (n := n) (k := k) (by omega)
      have h2 := hB k (by omega)
      have h3 := hB2 (k + 1) (by omega)
      rw [h1, Int.add_emod, Int.mul_emod, h3, Int.mul_zero, Int.zero_emod, Int.add_zero, Int.emod_emod_of_dvd _ (Int.dvd_refl _)] at h2
      exact h2
theorem evL_n {f x : Int} {a : List Int} {n : Nat} (h : a.length ≤ n) : evL f x a = RS (evN x (lf a) n) (P f) := by
  unfold evL
  rw [evN_more h fun j hj => lf_out a hj]
/-- Two coefficient functions with the same values at n points. -/
theorem same_values {f : Int} (h0 : 0 ≤ f) (h8 : f ≤ 8) {n : Nat} {A B X : Nat → Int} (hd : DistinctS f X n) (h : ∀ i, i < n → evN (X i) A n % P f = evN (X i) B n % P f) : ∀ j, j < n → A j % P f = B j % P f := fun j hj => by
  have h1 := roots_zero h0 h8 X n (fun j => A j + -1 * B j) hd (fun i hi => by
    rw [evN_add, evN_smul, show evN (X i) A n + -1 * evN (X i) B n = evN (X i) A n - evN (X i) B n by omega, ← Int.emod_eq_emod_iff_emod_sub_eq_zero]
    exact h i hi) j hj
  rw [Int.emod_eq_emod_iff_emod_sub_eq_zero]
  rw [← h1]
  congr 1
  omega
/-- There is one polynomial through points. -/
theorem through_unique {f : Int} (h0 : 0 ≤ f) (h8 : f ≤ 8) {n : Nat} {a b : List Int} {X : Nat → Int} (hd : DistinctS f X n) (ha : Pol f a) (hb : Pol f b) (la : a.length ≤ n) (lb : b.length ≤ n) (h : ∀ i, i < n → evL f (X i) a = evL f (X i) b) : a = b := by
  refine Pol.eq ha hb fun j => ?_
  by_cases hj : j < n
  · refine same_values h0 h8 hd (fun i hi => ?_) j hj
    have := h i hi
    rwa [evL_n la, evL_n lb] at this
  · rw [lf_out a (by omega), lf_out b (by omega)]
/-- x - y as a polynomial. -/
def linL (f y : Int) : List Int := [RS (0 - y) (P f), 1]
theorem linL_pol {f : Int} (h0 : 0 ≤ f) (h8 : f ≤ 8) (y : Int) : Pol f (linL f y) := by
  have hp := P_bd h0 h8
  refine ⟨fun j => ?_, .inr (by show (1 : Int) ≠ 0; decide)⟩
  match j with
  | 0 => exact RS_bd (by omega)
  | 1 => show 0 ≤ (1 : Int) ∧ (1 : Int) < P f; omega
  | j + 2 => show 0 ≤ (0 : Int) ∧ (0 : Int) < P f; omega
theorem evL_lin {f : Int} (x y : Int) : evL f x (linL f y) = RS (x - y) (P f) := by
  unfold evL
  have e : evN x (lf (linL f y)) (linL f y).length = RS (0 - y) (P f) + x := by
    show evN x (lf (linL f y)) 2 = _
    show 0 + lf (linL f y) 0 * x ^ 0 + lf (linL f y) 1 * x ^ 1 = _
    show 0 + RS (0 - y) (P f) * x ^ 0 + 1 * x ^ 1 = _
    rw [Int.pow_zero, Int.mul_one, Int.one_mul, Int.zero_add, Int.pow_succ, Int.pow_zero, Int.one_mul]
  rw [e]
  unfold RS
  rw [show x - y = (0 - y) + x by omega]
  exact emod_add_congr (Int.emod_emod_of_dvd _ (Int.dvd_refl _)) rfl
/-- The product of the x - X i, i < n. -/
def vanL (f : Int) (X : Nat → Int) : Nat → List Int
  | 0 => [1]
  | n + 1 => mulL f (vanL f X n) (linL f (X n))
theorem pol_oneL {f : Int} (h0 : 0 ≤ f) (h8 : f ≤ 8) : Pol f [1] := by
  have hp := P_bd h0 h8
  have e2 : cutL 1 (fun _ => (1 : Int)) = [1] := rfl
  rw [← e2]
  exact Pol.cut (by omega) fun _ _ => by omega
theorem vanL_pol {f : Int} (h0 : 0 ≤ f) (h8 : f ≤ 8) (X : Nat → Int) : ∀ n, Pol f (vanL f X n)
  | 0 => pol_oneL h0 h8
  | _ + 1 => pol_mulL h0 h8 _ _
theorem vanL_len {f : Int} (h0 : 0 ≤ f) (h8 : f ≤ 8) (X : Nat → Int) : ∀ n, (vanL f X n).length = n + 1
  | 0 => rfl
  | n + 1 => by
    have ih := vanL_len h0 h8 X n
    show (mulL f (vanL f X n) (linL f (X n))).length = _
    have l2 : (linL f (X n)).length = 2 := rfl
    rw [mulL_len h0 h8 (vanL_pol h0 h8 X n) (linL_pol h0 h8 _) (by omega) (by omega), ih, l2]
    omega
/-- The product of the x - X i as a number. -/
def pdZ (x : Int) (X : Nat → Int) : Nat → Int
  | 0 => 1
  | n + 1 => pdZ x X n * (x - X n)
theorem vanL_ev {f : Int} (h0 : 0 ≤ f) (h8 : f ≤ 8) (x : Int) (X : Nat → Int) : ∀ n, evL f x (vanL f X n) = RS (pdZ x X n) (P f)
  | 0 => by
    show evL f x [1] = RS 1 (P f)
    unfold evL
    show RS (0 + (1 : Int) * x ^ 0) (P f) = _
    rw [Int.pow_zero]
    rfl
  | n + 1 => by
    show evL f x (mulL f (vanL f X n) (linL f (X n))) = _
    rw [evL_mul, vanL_ev h0 h8 x X n, evL_lin]
    unfold RS
    exact (Int.mul_emod _ _ _).symm
theorem pdZ_zero {x : Int} {X : Nat → Int} : ∀ {n i : Nat}, i < n → x = X i → pdZ x X n = 0
  | n + 1, i, h, e => by
    show pdZ x X n * (x - X n) = 0
    by_cases hi : i < n
    · rw [pdZ_zero hi e, Int.zero_mul]
    · obtain rfl : i = n := by omega
      rw [e, Int.sub_self, Int.mul_zero]
/-- A product that vanishes has a factor that does. -/
theorem mul_ne_zero {f : Int} (h0 : 0 ≤ f) (h8 : f ≤ 8) {a b : Int} (ha : a % P f ≠ 0) (hb : b % P f ≠ 0) : (a * b) % P f ≠ 0 := fun h => by
  have h3 := cancelF h0 h8 (x := b) (y := 0) ha (by rw [h, Int.mul_zero]; rfl)
  exact hb (h3.trans rfl)
theorem pdZ_ne {f : Int} (h0 : 0 ≤ f) (h8 : f ≤ 8) {x : Int} {X : Nat → Int} : ∀ {n : Nat}, (∀ i, i < n → (x - X i) % P f ≠ 0) → pdZ x X n % P f ≠ 0
  | 0, _ => one_ne' h0 h8
  | n + 1, h => mul_ne_zero h0 h8 (pdZ_ne h0 h8 fun i hi => h i (by omega)) (h n (by omega))
where one_ne' (h0 : 0 ≤ f) (h8 : f ≤ 8) : (1 : Int) % P f ≠ 0 := by rw [one_p h0 h8]; decide
end Go.Proofs.YtoonpnfhcmghmabDoor
namespace Go.Proofs.YtoonpnfhcmghmabDoor
/-- How many of the first n places are marked. -/
def cntN (p : Nat → Bool) : Nat → Nat
  | 0 => 0
  | n + 1 => cntN p n + (if p n then 1 else 0)
theorem cntN_congr {p q : Nat → Bool} : ∀ {n : Nat}, (∀ i, i < n → p i = q i) → cntN p n = cntN q n
  | 0, _ => rfl
  | n + 1, h => by
    show cntN p n + (if p n then 1 else 0) = cntN q n + (if q n then 1 else 0)
    rw [cntN_congr fun i hi => h i (by omega), h n (by omega)]
theorem cntN_not (p : Nat → Bool) : ∀ n, cntN p n + cntN (fun i => !p i) n = n
  | 0 => rfl
  | n + 1 => by
    have := cntN_not p n
    show cntN p n + (if p n then 1 else 0) + (cntN (fun i => !p i) n + (if !p n then 1 else 0)) = n + 1
    cases p n
    · simp; omega
    · simp; omega
theorem cntN_or {p q r : Nat → Bool} : ∀ {n : Nat}, (∀ i, i < n → r i = true → p i = true ∨ q i = true) → cntN r n ≤ cntN p n + cntN q n
  | 0, _ => Nat.le_refl _
  | n + 1, h => by
    have ih := cntN_or (p := p) (q := q) (r := r) (n := n) fun i hi => h i (by omega)
    have hn := h n (by omega)
    show cntN r n + (if r n then 1 else 0) ≤ cntN p n + (if p n then 1 else 0) + (cntN q n + (if q n then 1 else 0))
    cases hr : r n
    · simp; omega
    · rcases hn hr with e | e <;> simp [e] <;> omega
/-- What lies at the marked places. -/
def selL (p : Nat → Bool) (X : Nat → Int) : Nat → List Int
  | 0 => []
  | n + 1 => if p n then selL p X n ++ [X n] else selL p X n
theorem selL_len (p : Nat → Bool) (X : Nat → Int) : ∀ n, (selL p X n).length = cntN p n
  | 0 => rfl
  | n + 1 => by
    show (if p n then selL p X n ++ [X n] else selL p X n).length = cntN p n + (if p n then 1 else 0)
    have := selL_len p X n
    split
    · rw [List.length_append, this]; rfl
    · omega
theorem selL_congr {p q : Nat → Bool} (X : Nat → Int) : ∀ {n : Nat}, (∀ i, i < n → p i = q i) → selL p X n = selL q X n
  | 0, _ => rfl
  | n + 1, h => by
    show (if p n then selL p X n ++ [X n] else selL p X n) = (if q n then selL q X n ++ [X n] else selL q X n)
    rw [selL_congr X fun i hi => h i (by omega), h n (by omega)]
theorem lf_app (l : List Int) (x : Int) (j : Nat) : lf (l ++ [x]) j = if j < l.length then lf l j else if j = l.length then x else 0 := by
  show (l ++ [x]).getD j 0 = if j < l.length then l.getD j 0 else if j = l.length then x else 0
  rw [List.getD_eq_getElem?_getD, List.getD_eq_getElem?_getD]
  by_cases h : j < l.length
  · rw [if_pos h, List.getElem?_append_left h]
  · rw [if_neg h, List.getElem?_append_right (by omega)]
    by_cases e : j = l.length
    · subst e
      rw [if_pos rfl, Nat.sub_self]
      rfl
    · rw [if_neg e, List.getElem?_eq_none (by simp; omega)]
      rfl
/-- The places that are marked, in their order. -/
theorem sel_idx (p : Nat → Bool) : ∀ n, ∃ s : Nat → Nat, (∀ j, j < cntN p n → s j < n ∧ p (s j) = true) ∧ (∀ i j, i < j → j < cntN p n → s i < s j) ∧ (∀ (X : Nat → Int) j, j < cntN p n → lf (selL p X n) j = X (s j)) ∧ ∀ i, i < n → p i = true → ∃ j, j < cntN p n ∧ s j = i
  | 0 => ⟨fun _ => 0, fun j hj => by have : j < 0 := hj; omega, fun i j _ hj => by have : j < 0 := hj; omega, fun X j hj => by have : j < 0 := hj; omega, fun i hi => by omega⟩
  | n + 1 => by
    obtain ⟨s, h1, h2, h3, h4⟩ := sel_idx p n
    by_cases hp : p n = true
    · have e : cntN p (n + 1) = cntN p n + 1 := by show cntN p n + (if p n then 1 else 0) = _; rw [if_pos hp]
      have eX : ∀ X : Nat → Int, selL p X (n + 1) = selL p X n ++ [X n] := fun X => by show (if p n then selL p X n ++ [X n] else selL p X n) = _; rw [if_pos hp]
      refine ⟨fun j => if j < cntN p n then s j else n, fun j hj => ?_, fun i j hij hj => ?_, fun X j hj => ?_, fun i hi hpi => ?_⟩
      · rw [e] at hj
        by_cases hj2 : j < cntN p n
        · simp only [if_pos hj2]
          have := h1 j hj2
          exact ⟨by omega, this.2⟩
        · simp only [if_neg hj2]
          exact ⟨by omega, hp⟩
      · rw [e] at hj
        have hi2 : i < cntN p n := by omega
        simp only [if_pos hi2]
        by_cases hj2 : j < cntN p n
        · simp only [if_pos hj2]
          exact h2 i j hij hj2
        · simp only [if_neg hj2]
          exact (h1 i hi2).1
      · rw [e] at hj
        rw [eX, lf_app, selL_len]
        by_cases hj2 : j < cntN p n
        · simp only [if_pos hj2]
          exact h3 X j hj2
        · simp only [if_neg hj2]
          rw [if_pos (by omega)]
      · rw [e]
        by_cases hin : i < n
        · obtain ⟨j, hj, hs⟩ := h4 i hin hpi
          exact ⟨j, by omega, by simp only [if_pos hj]; exact hs⟩
        · exact ⟨cntN p n, by omega, by simp only [Nat.lt_irrefl, if_false]; omega⟩
    · have e : cntN p (n + 1) = cntN p n := by show cntN p n + (if p n then 1 else 0) = _; rw [if_neg hp]; rfl
      have eX : ∀ X : Nat → Int, selL p X (n + 1) = selL p X n := fun X => by show (if p n then selL p X n ++ [X n] else selL p X n) = _; rw [if_neg hp]
      rw [e]
      refine ⟨s, fun j hj => ?_, h2, fun X j hj => by rw [eX]; exact h3 X j hj, fun i hi hpi => ?_⟩
      · have := h1 j hj
        exact ⟨by omega, this.2⟩
      · by_cases hin : i < n
        · exact h4 i hin hpi
        · obtain rfl : i = n := by omega
          exact absurd hpi hp
/-- The first k of the marked places. -/
def firstK (p : Nat → Bool) (k : Nat) (i : Nat) : Bool := p i && decide (cntN p i < k)
theorem firstK_cnt (p : Nat → Bool) (k : Nat) : ∀ n, cntN (firstK p k) n = min k (cntN p n)
  | 0 => by show 0 = min k 0; omega
  | n + 1 => by
    have ih := firstK_cnt p k n
    show cntN (firstK p k) n + (if firstK p k n then 1 else 0) = min k (cntN p n + (if p n then 1 else 0))
    rw [ih]
    unfold firstK
    cases hp : p n
    · simp
    · by_cases h : cntN p n < k
      · simp [h]; omega
      · simp [h]; omega
/-- A choice of places as the bits of a number. -/
def bitP (s : Nat) (i : Nat) : Bool := s / 2 ^ i % 2 == 1
theorem mask_exists (q : Nat → Bool) : ∀ n, ∃ s, s < 2 ^ n ∧ ∀ i, i < n → bitP s i = q i
  | 0 => ⟨0, by decide, fun i hi => by omega⟩
  | n + 1 => by
    obtain ⟨s, hs, hb⟩ := mask_exists (fun i => q (i + 1)) n
    refine ⟨2 * s + (if q 0 then 1 else 0), ?_, fun i hi => ?_⟩
    · rw [Nat.pow_succ]
      split <;> omega
    · cases i with
      | zero =>
        unfold bitP
        rw [Nat.pow_zero, Nat.div_one]
        cases q 0
        · simp
        · have : (2 * s + 1) % 2 = 1 := by omega
          simp [this]
      | succ i =>
        have h := hb i (by omega)
        have e : (2 * s + (if q 0 then 1 else 0)) / 2 ^ (i + 1) = s / 2 ^ i := by
          rw [show 2 ^ (i + 1) = 2 * 2 ^ i by rw [Nat.pow_succ, Nat.mul_comm], ← Nat.div_div_eq_div_mul]
          congr 1
          split <;> omega
        unfold bitP at h ⊢
        rw [e]
        exact h
end Go.Proofs.YtoonpnfhcmghmabDoor
namespace Go.Proofs.YtoonpnfhcmghmabDoor
theorem evL_scale (f x c : Int) (l : List Int) : evL f x (scaleL f l c) = RS (evL f x l * c) (P f) := by
  rw [evL_n (scaleL_le f l c)]
  unfold evL RS
  rw [evN_mod (p := P f) (y := x) (B := fun j => c * lf l j) _ rfl (fun j => by rw [lf_scaleL, Int.mul_comm]; simp), evN_smul, Int.mul_comm c]
  exact (emod_mul_congr (Int.emod_emod_of_dvd _ (Int.dvd_refl _)) rfl).symm
theorem distinct_of {f : Int} {X : Nat → Int} {n : Nat} (hb : ∀ j, j < n → 0 ≤ X j ∧ X j < P f) (hd : ∀ i j, i < j → j < n → X i ≠ X j) : DistinctS f X n := fun i j hi hj hij h => by
  rw [← Int.emod_eq_emod_iff_emod_sub_eq_zero, Int.emod_eq_of_lt (hb i hi).1 (hb i hi).2, Int.emod_eq_of_lt (hb j hj).1 (hb j hj).2] at h
  rcases Nat.lt_or_gt_of_ne hij with h2 | h2
  · exact hd i j h2 hj h
  · exact hd j i h2 hi h.symm
/-- The points but the i-th. -/
def othS (X : Nat → Int) (i : Nat) : Nat → Int := fun j => if j < i then X j else X (j + 1)
/-- The product of the X i - X j, j < k, j other than i, as an element. -/
def byF (f : Int) (X : Nat → Int) (i : Nat) : Nat → Int
  | 0 => 1
  | k + 1 => if k = i then byF f X i k else RS (byF f X i k * RS (X i - X k) (P f)) (P f)
theorem byF_lo (f : Int) (X : Nat → Int) (i : Nat) : ∀ k, k ≤ i → byF f X i k % P f = pdZ (X i) (othS X i) k % P f
  | 0, _ => rfl
  | k + 1, h => by
    show (if k = i then byF f X i k else RS (byF f X i k * RS (X i - X k) (P f)) (P f)) % P f = (pdZ (X i) (othS X i) k * (X i - othS X i k)) % P f
    rw [if_neg (by omega)]
    have e : othS X i k = X k := if_pos (by omega)
    rw [e]
    unfold RS
    rw [Int.emod_emod_of_dvd _ (Int.dvd_refl _)]
    exact emod_mul_congr (byF_lo f X i k (by omega)) (Int.emod_emod_of_dvd _ (Int.dvd_refl _))
theorem byF_hi (f : Int) (X : Nat → Int) (i : Nat) : ∀ k, i < k → byF f X i k % P f = pdZ (X i) (othS X i) (k - 1) % P f
  | k + 1, h => by
    show (if k = i then byF f X i k else RS (byF f X i k * RS (X i - X k) (P f)) (P f)) % P f = _
    by_cases e : k = i
    · rw [if_pos e]
      subst e
      exact byF_lo f X k k (Nat.le_refl _)
    · rw [if_neg e]
      obtain ⟨m, rfl⟩ : ∃ m, k = m + 1 := ⟨k - 1, by omega⟩
      have e2 : othS X i m = X (m + 1) := if_neg (by omega)
      show _ = (pdZ (X i) (othS X i) m * (X i - othS X i m)) % P f
      rw [e2]
      unfold RS
      rw [Int.emod_emod_of_dvd _ (Int.dvd_refl _)]
      exact emod_mul_congr (byF_hi f X i (m + 1) (by omega)) (Int.emod_emod_of_dvd _ (Int.dvd_refl _))
theorem byF_ne {f : Int} (h0 : 0 ≤ f) (h8 : f ≤ 8) {X : Nat → Int} {n i : Nat} (hd : DistinctS f X n) (hi : i < n) : byF f X i n % P f ≠ 0 := by
  rw [byF_hi f X i n hi]
  refine pdZ_ne h0 h8 fun j hj => ?_
  unfold othS
  split
  · exact hd i j hi (by omega) (by omega)
  · exact hd i (j + 1) hi (by omega) (by omega)
/-- The i-th term of Lagrange's sum. -/
noncomputable def lagT (f : Int) (X Y : Nat → Int) (n i : Nat) : List Int := scaleL f (vanL f (othS X i) (n - 1)) (RS (Y i * mPower f (byF f X i n) (-1)) (P f))
noncomputable def lagL (f : Int) (X Y : Nat → Int) (n : Nat) : Nat → List Int
  | 0 => []
  | i + 1 => addL f (lagL f X Y n i) (lagT f X Y n i)
theorem lagT_len {f : Int} (h0 : 0 ≤ f) (h8 : f ≤ 8) (X Y : Nat → Int) {n : Nat} (n1 : 1 ≤ n) (i : Nat) : (lagT f X Y n i).length ≤ n := by
  have h1 := scaleL_le f (vanL f (othS X i) (n - 1)) (RS (Y i * mPower f (byF f X i n) (-1)) (P f))
  rw [vanL_len h0 h8] at h1
  unfold lagT
  omega
theorem lagL_len {f : Int} (h0 : 0 ≤ f) (h8 : f ≤ 8) (X Y : Nat → Int) {n : Nat} (n1 : 1 ≤ n) : ∀ i, (lagL f X Y n i).length ≤ n
  | 0 => Nat.zero_le _
  | i + 1 => by
    have h1 := lagL_len h0 h8 X Y n1 i
    have h2 := lagT_len h0 h8 X Y n1 i
    have h3 := addL_le f (lagL f X Y n i) (lagT f X Y n i)
    show (addL f (lagL f X Y n i) (lagT f X Y n i)).length ≤ n
    omega
theorem lagL_pol {f : Int} (h0 : 0 ≤ f) (h8 : f ≤ 8) (X Y : Nat → Int) (n : Nat) : ∀ i, Pol f (lagL f X Y n i)
  | 0 => Pol.nil (by have := P_bd h0 h8; omega)
  | _ + 1 => pol_addL h0 h8 _ _
theorem lagT_ev {f : Int} (h0 : 0 ≤ f) (h8 : f ≤ 8) {X Y : Nat → Int} {n i m : Nat} (hd : DistinctS f X n) (hi : i < n) (hm : m < n) : evL f (X m) (lagT f X Y n i) = if m = i then RS (Y i) (P f) else 0 := by
  unfold lagT
  rw [evL_scale, vanL_ev h0 h8]
  by_cases e : m = i
  · subst e
    rw [if_pos rfl]
    have h1 := byF_hi f X m n hi
    have h2 := inv_mul h0 h8 (byF_ne h0 h8 hd hi)
    obtain ⟨V, hV⟩ : ∃ V, mPower f (byF f X m n) (-1) = V := ⟨_, rfl⟩
    rw [hV] at h2 ⊢
    unfold RS
    have h3 : (pdZ (X m) (othS X m) (n - 1) % P f * (Y m * V % P f)) % P f = (byF f X m n * (Y m * V)) % P f := emod_mul_congr (by rw [Int.emod_emod_of_dvd _ (Int.dvd_refl _)]; exact h1.symm) (Int.emod_emod_of_dvd _ (Int.dvd_refl _))
    rw [h3, show byF f X m n * (Y m * V) = Y m * (V * byF f X m n) by rw [Int.mul_left_comm, Int.mul_comm V]]
    have h4 : (Y m * (V * byF f X m n)) % P f = (Y m * 1) % P f := emod_mul_congr rfl h2
    rw [h4, Int.mul_one]
  · rw [if_neg e]
    have h1 : pdZ (X m) (othS X i) (n - 1) = 0 := by
      by_cases hl : m < i
      · exact pdZ_zero (i := m) (by omega) (by unfold othS; rw [if_pos hl])
      · exact pdZ_zero (i := m - 1) (by omega) (by unfold othS; rw [if_neg (by omega), show m - 1 + 1 = m by omega])
    rw [h1]
    simp [RS]
theorem lagL_ev {f : Int} (h0 : 0 ≤ f) (h8 : f ≤ 8) {X Y : Nat → Int} {n m : Nat} (hd : DistinctS f X n) (hm : m < n) : ∀ i, i ≤ n → evL f (X m) (lagL f X Y n i) = if m < i then RS (Y m) (P f) else 0
  | 0, _ => by
    show evL f (X m) [] = _
    simp [evL, evN, sumN, RS]
  | i + 1, h => by
    show evL f (X m) (addL f (lagL f X Y n i) (lagT f X Y n i)) = _
    rw [evL_add, lagL_ev h0 h8 hd hm i (by omega), lagT_ev h0 h8 hd (by omega) hm]
    by_cases h1 : m < i
    · rw [if_pos h1, if_neg (by omega), if_pos (by omega)]
      simp [RS]
    · rw [if_neg h1]
      by_cases h2 : m = i
      · rw [if_pos h2, if_pos (by omega), h2]
        simp [RS]
      · rw [if_neg h2, if_neg (by omega)]
        simp [RS]
/-- The polynomial through the points. -/
def QInter (f : Int) (X Y : Nat → Int) (n : Nat) (a : List Int) : Prop := Pol f a ∧ a.length ≤ n ∧ ∀ i, i < n → evL f (X i) a = Y i
noncomputable def interL (f : Int) (X Y : Nat → Int) (n : Nat) : List Int := theL (QInter f X Y n)
theorem QInter.unique {f : Int} (h0 : 0 ≤ f) (h8 : f ≤ 8) {X Y : Nat → Int} {n : Nat} (hd : DistinctS f X n) {a b : List Int} (ha : QInter f X Y n a) (hb : QInter f X Y n b) : a = b :=
  through_unique h0 h8 hd ha.1 hb.1 ha.2.1 hb.2.1 fun i hi => by rw [ha.2.2 i hi, hb.2.2 i hi]
theorem interL_eq {f : Int} (h0 : 0 ≤ f) (h8 : f ≤ 8) {X Y : Nat → Int} {n : Nat} (hd : DistinctS f X n) {a : List Int} (h : QInter f X Y n a) : interL f X Y n = a := theL_eq (fun _ _ p q => QInter.unique h0 h8 hd p q) h
theorem lagL_is {f : Int} (h0 : 0 ≤ f) (h8 : f ≤ 8) {X Y : Nat → Int} {n : Nat} (n1 : 1 ≤ n) (hd : DistinctS f X n) (hY : ∀ j, j < n → 0 ≤ Y j ∧ Y j < P f) : QInter f X Y n (lagL f X Y n n) :=
  ⟨lagL_pol h0 h8 X Y n n, lagL_len h0 h8 X Y n1 n, fun i hi => by
    rw [lagL_ev h0 h8 hd hi n (Nat.le_refl _), if_pos hi]
    unfold RS
    exact Int.emod_eq_of_lt (hY i hi).1 (hY i hi).2⟩
theorem interL_lag {f : Int} (h0 : 0 ≤ f) (h8 : f ≤ 8) {X Y : Nat → Int} {n : Nat} (n1 : 1 ≤ n) (hd : DistinctS f X n) (hY : ∀ j, j < n → 0 ≤ Y j ∧ Y j < P f) : interL f X Y n = lagL f X Y n n := interL_eq h0 h8 hd (lagL_is h0 h8 n1 hd hY)
theorem interL_is {f : Int} (h0 : 0 ≤ f) (h8 : f ≤ 8) {X Y : Nat → Int} {n : Nat} (n1 : 1 ≤ n) (hd : DistinctS f X n) (hY : ∀ j, j < n → 0 ≤ Y j ∧ Y j < P f) : QInter f X Y n (interL f X Y n) := by
  rw [interL_lag h0 h8 n1 hd hY]
  exact lagL_is h0 h8 n1 hd hY
/-- What the functions ask. -/
def PtsOk (f : Int) (xs : List Int) : Prop := (0 ≤ f ∧ f ≤ 8) ∧ (1 ≤ xs.length ∧ xs.length ≤ 40) ∧ (∀ j, j < xs.length → 0 ≤ lf xs j ∧ lf xs j < P f) ∧ ∀ i j, i < j → j < xs.length → lf xs i ≠ lf xs j
theorem PtsOk.dist {f : Int} {xs : List Int} (h : PtsOk f xs) : DistinctS f (lf xs) xs.length := distinct_of h.2.2.1 h.2.2.2
def ElsOk (f : Int) (l : List Int) : Prop := ∀ j, j < l.length → 0 ≤ lf l j ∧ lf l j < P f
def InterOk (f : Int) (xs ys : List Int) : Prop := PtsOk f xs ∧ ys.length = xs.length ∧ ElsOk f ys
/-- The word of a message. -/
def encL (f : Int) (xs m : List Int) : List Int := tab xs.length fun i => RS (evN (lf xs i) (lf m) m.length) (P f)
theorem encL_len (f : Int) (xs m : List Int) : (encL f xs m).length = xs.length := tab_len _ _
theorem encL_at {f : Int} {xs m : List Int} {i : Nat} (h : i < xs.length) : lf (encL f xs m) i = RS (evN (lf xs i) (lf m) m.length) (P f) := by unfold encL; rw [lf_tab, if_pos h]
/-- In how many places two lists differ. -/
def difP (a b : List Int) (j : Nat) : Bool := decide (a.length ≤ j) || decide (b.length ≤ j) || (lf a j != lf b j)
def difN (a b : List Int) : Nat := cntN (difP a b) (max a.length b.length)
theorem difN_same {a b : List Int} (h : a.length = b.length) : difN a b = cntN (fun j => lf a j != lf b j) a.length := by
  unfold difN
  rw [← h, Nat.max_self]
  exact cntN_congr fun i hi => by
    unfold difP
    rw [← h]
    simp [show ¬ a.length ≤ i by omega]
/-- A message whose word is near. -/
def QDec (f : Int) (xs ys : List Int) (k : Nat) (m : List Int) : Prop := m.length = k ∧ ElsOk f m ∧ difN (encL f xs m) ys ≤ (xs.length - k) / 2
theorem QDec.unique {f : Int} {xs ys : List Int} {k : Nat} (hp : PtsOk f xs) (hy : ys.length = xs.length) (hk : k ≤ xs.length) {a b : List Int} (ha : QDec f xs ys k a) (hb : QDec f xs ys k b) : a = b := by
  have h0 := hp.1.1
  have h8 := hp.1.2
  have da := ha.2.2
  have db := hb.2.2
  rw [difN_same (by rw [encL_len, hy]), encL_len] at da db
  have hne : cntN (fun j => lf (encL f xs a) j != lf (encL f xs b) j) xs.length ≤ cntN (fun j => lf (encL f xs a) j != lf ys j) xs.length + cntN (fun j => lf (encL f xs b) j != lf ys j) xs.length := cntN_or fun i _ hr => by
    simp only [bne_iff_ne, ne_eq] at hr ⊢
    by_cases e : lf (encL f xs a) i = lf ys i
    · exact .inr fun e2 => hr (e.trans e2.symm)
    · exact .inl e
  have hnot := cntN_not (fun j => lf (encL f xs a) j != lf (encL f xs b) j) xs.length
  obtain ⟨s, s1, s2, _, _⟩ := sel_idx (fun j => !(lf (encL f xs a) j != lf (encL f xs b) j)) xs.length
  have hcnt : k ≤ cntN (fun j => !(lf (encL f xs a) j != lf (encL f xs b) j)) xs.length := by omega
  have hd : DistinctS f (fun j => lf xs (s j)) k := distinct_of (fun j hj => hp.2.2.1 (s j) (s1 j (by omega)).1) fun i j hij hj => by
    have h1 := s2 i j hij (by omega)
    have h2 := (s1 j (by omega)).1
    exact hp.2.2.2 (s i) (s j) h1 h2
  have hv := same_values h0 h8 (A := lf a) (B := lf b) hd fun i hi => by
    have h1 := s1 i (by omega)
    have h2 : lf (encL f xs a) (s i) = lf (encL f xs b) (s i) := by
      have := h1.2
      simp only [Bool.not_eq_true', bne_eq_false_iff_eq] at this
      exact this
    rw [encL_at h1.1, encL_at h1.1, ha.1, hb.1] at h2
    exact h2
  refine list_ext (by rw [ha.1, hb.1]) fun j hj => ?_
  have h1 := hv j (by rw [← ha.1]; exact hj)
  have b1 := ha.2.1 j hj
  have b2 := hb.2.1 j (by rw [hb.1, ← ha.1]; exact hj)
  rwa [Int.emod_eq_of_lt b1.1 b1.2, Int.emod_eq_of_lt b2.1 b2.2] at h1
noncomputable def decL (f : Int) (xs ys : List Int) (k : Nat) : List Int := theL (QDec f xs ys k)
theorem decL_eq {f : Int} {xs ys : List Int} {k : Nat} (hp : PtsOk f xs) (hy : ys.length = xs.length) (hk : k ≤ xs.length) {m : List Int} (h : QDec f xs ys k m) : decL f xs ys k = m := theL_eq (fun _ _ p q => QDec.unique hp hy hk p q) h
/-- The message through k chosen places, with zeros behind. -/
noncomputable def tryL (f : Int) (xs ys : List Int) (k : Nat) (p : Nat → Bool) : List Int := padL (interL f (lf (selL p (lf xs) xs.length)) (lf (selL p (lf ys) xs.length)) k) k
theorem sel_dist {f : Int} {xs : List Int} (hp : PtsOk f xs) (p : Nat → Bool) {k : Nat} (hk : cntN p xs.length = k) : DistinctS f (lf (selL p (lf xs) xs.length)) k := by
  obtain ⟨s, s1, s2, s3, _⟩ := sel_idx p xs.length
  refine distinct_of (fun j hj => ?_) fun i j hij hj => ?_
  · rw [s3 _ j (by omega)]
    exact hp.2.2.1 _ (s1 j (by omega)).1
  · rw [s3 _ j (by omega), s3 _ i (by omega)]
    exact hp.2.2.2 _ _ (s2 i j hij (by omega)) (s1 j (by omega)).1
/-- The message is found at some choice of places. -/
theorem QDec.found {f : Int} {xs ys : List Int} {k : Nat} (hp : PtsOk f xs) (hy : ys.length = xs.length) (_k1 : 1 ≤ k) (hk : k ≤ xs.length) {m : List Int} (h : QDec f xs ys k m) : ∃ s, s < 2 ^ xs.length ∧ cntN (bitP s) xs.length = k ∧ tryL f xs ys k (bitP s) = m := by
  have h0 := hp.1.1
  have h8 := hp.1.2
  have d := h.2.2
  rw [difN_same (by rw [encL_len, hy]), encL_len] at d
  have hnot := cntN_not (fun j => lf (encL f xs m) j != lf ys j) xs.length
  obtain ⟨s, hs, hb⟩ := mask_exists (firstK (fun j => !(lf (encL f xs m) j != lf ys j)) k) xs.length
  have hc : cntN (bitP s) xs.length = k := by
    rw [cntN_congr hb, firstK_cnt]
    omega
  refine ⟨s, hs, hc, ?_⟩
  have hdist := sel_dist hp (bitP s) hc
  obtain ⟨t, t1, _, t3, _⟩ := sel_idx (bitP s) xs.length
  have hpol : Pol f (cutL k (lf m)) := Pol.cut (by have := P_bd h0 h8; omega) fun j hj => h.2.1 j (by rw [h.1]; exact hj)
  have hlen := cutL_le k (lf m)
  have elf : lf (cutL k (lf m)) = lf m := by have := lf_cut_self m; rwa [h.1] at this
  have hQ : QInter f (lf (selL (bitP s) (lf xs) xs.length)) (lf (selL (bitP s) (lf ys) xs.length)) k (cutL k (lf m)) := ⟨hpol, hlen, fun i hi => by
    have h1 := t1 i (by omega)
    have h2 := hb (t i) h1.1
    rw [h1.2] at h2
    have h3 : lf (encL f xs m) (t i) = lf ys (t i) := by
      have h5 : firstK (fun j => !(lf (encL f xs m) j != lf ys j)) k (t i) = true := h2.symm
      unfold firstK at h5
      have h4 : (!(lf (encL f xs m) (t i) != lf ys (t i))) = true := (Bool.and_eq_true_iff.1 h5).1
      simp only [Bool.not_eq_true', bne_eq_false_iff_eq] at h4
      exact h4
    rw [t3 _ i (by omega), t3 _ i (by omega), evL_n hlen, elf]
    rw [encL_at h1.1, h.1] at h3
    exact h3⟩
  unfold tryL
  rw [interL_eq h0 h8 hdist hQ]
  refine list_ext (by rw [padL_len, h.1]) fun j hj => ?_
  rw [lf_padL _ hlen, elf]
end Go.Proofs.YtoonpnfhcmghmabDoor
namespace Go.Proofs.YtoonpnfhcmghmabDoor
noncomputable def blameL (f : Int) (xs ys : List Int) (k : Nat) : List Int := selL (fun i => lf (encL f xs (decL f xs ys k)) i != lf ys i) (fun i => (i : Int)) xs.length
theorem InterOk.is {f : Int} {xs ys : List Int} (h : InterOk f xs ys) : QInter f (lf xs) (lf ys) xs.length (interL f (lf xs) (lf ys) xs.length) :=
  interL_is h.1.1.1 h.1.1.2 h.1.2.1.1 h.1.dist fun j hj => h.2.2 j (by rw [h.2.1]; exact hj)
end Go.Proofs.YtoonpnfhcmghmabDoor
namespace Go.Proofs.YtoonpnfhcmghmabDoor
theorem emm (x p : Int) : x % p % p = x % p := Int.emod_emod_of_dvd _ (Int.dvd_refl _)
theorem van_at {f : Int} (h0 : 0 ≤ f) (h8 : f ≤ 8) (X : Nat → Int) {n i : Nat} (hi : i < n) : evL f (X i) (vanL f X n) = 0 := by
  rw [vanL_ev h0 h8, pdZ_zero hi rfl]
  exact Int.zero_emod _
end Go.Proofs.YtoonpnfhcmghmabDoor
namespace Go.Proofs.YtoonpnfhcmghmabDoor
/-- The state of the divisions: two remainders and their factors. -/
def EeaAt (f : Int) (X Y : Nat → Int) (n b : Nat) (r0 r1 v0 v1 : List Int) : Prop :=
  (Pol f r0 ∧ Pol f r1 ∧ Pol f v0 ∧ Pol f v1) ∧ (r1.length < r0.length ∧ v0.length < v1.length ∧ v1.length + r0.length = n + 2 ∧ b ≤ 2 * (r0.length - 1)) ∧ (∀ i, i < n → evL f (X i) r0 = RS (evL f (X i) v0 * Y i) (P f)) ∧ ∀ i, i < n → evL f (X i) r1 = RS (evL f (X i) v1 * Y i) (P f)
theorem evL_one1 {f x : Int} (h0 : 0 ≤ f) (h8 : f ≤ 8) : evL f x [1] = 1 := by
  have hp := P_bd h0 h8
  have e : evN x (lf [1]) 1 = 1 := by
    show 0 + (1 : Int) * x ^ 0 = 1
    rw [Int.pow_zero]; rfl
  show RS (evN x (lf [1]) 1) (P f) = 1
  rw [e]
  exact Int.emod_eq_of_lt (by omega) (by omega)
theorem evL_nil (f x : Int) : evL f x [] = 0 := by simp [evL, evN, sumN, RS]
theorem EeaAt.start {f : Int} (h0 : 0 ≤ f) (h8 : f ≤ 8) {X Y : Nat → Int} {n b : Nat} {c : List Int} (hb : b ≤ 2 * n) (hY : ∀ j, j < n → 0 ≤ Y j ∧ Y j < P f) (h : QInter f X Y n c) : EeaAt f X Y n b (vanL f X n) c [] [1] := by
  have hl := vanL_len h0 h8 X n
  have h1 := h.2.1
  refine ⟨⟨vanL_pol h0 h8 X n, h.1, Pol.nil (P_pos h0 h8), pol_oneL h0 h8⟩, ⟨by omega, by simp, by rw [hl]; simp; omega, by omega⟩, fun i hi => ?_, fun i hi => ?_⟩
  · rw [van_at h0 h8 X hi, evL_nil, Int.zero_mul]
    exact (Int.zero_emod _).symm
  · rw [h.2.2 i hi, evL_one1 h0 h8, Int.one_mul]
    exact (Int.emod_eq_of_lt (hY i hi).1 (hY i hi).2).symm
theorem msg_pol {f : Int} {m : List Int} {k : Nat} (h0 : 0 ≤ f) (h8 : f ≤ 8) (hm : m.length = k) (he : ElsOk f m) : Pol f (cutL k (lf m)) := Pol.cut (P_pos h0 h8) fun j hj => he j (by rw [hm]; exact hj)
theorem lf_cut_k {m : List Int} {k : Nat} (hm : m.length = k) : lf (cutL k (lf m)) = lf m := by
  subst hm
  exact lf_cut_self m
theorem evL_msg {f x : Int} {m : List Int} {k : Nat} (hm : m.length = k) : evL f x (cutL k (lf m)) = RS (evN x (lf m) m.length) (P f) := by
  rw [evL_n (cutL_le k (lf m)), lf_cut_k hm, hm]
/-- Where a message is near, the remainder is its multiple by the factor. -/
theorem EeaAt.found {f : Int} {xs ys : List Int} {k : Nat} (hp : PtsOk f xs) (hy : ys.length = xs.length) (_k1 : 1 ≤ k) (hk : k ≤ xs.length) {r0 r1 v0 v1 m : List Int} (h : EeaAt f (lf xs) (lf ys) xs.length (xs.length + k) r0 r1 v0 v1) (hend : 2 * (r1.length - 1) < xs.length + k) (hm : QDec f xs ys k m) : r1 = mulL f v1 (cutL k (lf m)) := by
  have h0 := hp.1.1
  have h8 := hp.1.2
  obtain ⟨⟨p1, p2, p3, p4⟩, ⟨l1, l2, l3, l4⟩, e1, e2⟩ := h
  have d := hm.2.2
  rw [difN_same (by rw [encL_len, hy]), encL_len] at d
  have hnot := cntN_not (fun j => lf (encL f xs m) j != lf ys j) xs.length
  obtain ⟨s, s1, s2, _, _⟩ := sel_idx (fun j => !(lf (encL f xs m) j != lf ys j)) xs.length
  obtain ⟨N, hN⟩ : ∃ N, cntN (fun j => !(lf (encL f xs m) j != lf ys j)) xs.length = N := ⟨_, rfl⟩
  rw [hN] at hnot s1 s2
  have hd : DistinctS f (fun j => lf xs (s j)) N := distinct_of (fun j hj => hp.2.2.1 (s j) (s1 j (by omega)).1) fun i j hij hj => by
    have h1 := s2 i j hij (by omega)
    have h2 := (s1 j (by omega)).1
    exact hp.2.2.2 (s i) (s j) h1 h2
  have lm := cutL_le k (lf m)
  have lp := mulL_le f v1 (cutL k (lf m))
  refine through_unique h0 h8 hd p2 (pol_mulL h0 h8 _ _) (by omega) (by omega) fun i hi => ?_
  have h1 := s1 i hi
  have h3 : lf (encL f xs m) (s i) = lf ys (s i) := by
    have := h1.2
    simp only [Bool.not_eq_true', bne_eq_false_iff_eq] at this
    exact this
  rw [encL_at h1.1] at h3
  show evL f (lf xs (s i)) r1 = evL f (lf xs (s i)) (mulL f v1 (cutL k (lf m)))
  rw [e2 (s i) h1.1, evL_mul, evL_msg hm.1, h3]
theorem mul_div {f : Int} (h0 : 0 ≤ f) (h8 : f ≤ 8) {v c : List Int} (hc : Pol f c) (hz : v.length ≠ 0) : DivP f (mulL f v c) v c [] := by
  refine ⟨hc, Pol.nil (P_pos h0 h8), by simp; omega, fun j => ?_⟩
  rw [lf_mulL, emm, cv_comm, lf_out [] (Nat.zero_le _), Int.add_zero]
/-- The quotient, cut and padded, is the message. -/
theorem EeaAt.message {f : Int} {xs ys : List Int} {k : Nat} (hp : PtsOk f xs) (hy : ys.length = xs.length) (k1 : 1 ≤ k) (hk : k ≤ xs.length) {r0 r1 v0 v1 m q r : List Int} (h : EeaAt f (lf xs) (lf ys) xs.length (xs.length + k) r0 r1 v0 v1) (hend : 2 * (r1.length - 1) < xs.length + k) (hm : QDec f xs ys k m) (hd : DivP f r1 v1 q r) : padL q k = m := by
  have h0 := hp.1.1
  have h8 := hp.1.2
  have e := h.found hp hy k1 hk hend hm
  have hv := h.2.1.2.1
  rw [e] at hd
  have hq := (DivP.unique h0 h8 h.1.2.2.2 hd (mul_div h0 h8 (msg_pol h0 h8 hm.1 hm.2.1) (by omega))).1
  rw [hq]
  refine list_ext (by rw [padL_len, hm.1]) fun j hj => ?_
  rw [lf_padL _ (cutL_le k (lf m)), lf_cut_k hm.1]
/-- The places where two lists differ. -/
def dfL (a b : List Int) : List Int := selL (difP a b) (fun i => (i : Int)) (max a.length b.length)
theorem difP_comm (a b : List Int) : difP a b = difP b a := funext fun j => by
  unfold difP
  rw [Bool.or_comm (decide (a.length ≤ j)), bne_comm]
theorem difN_comm (a b : List Int) : difN a b = difN b a := by unfold difN; rw [difP_comm, Nat.max_comm]
theorem dfL_enc {f : Int} {xs ys m : List Int} (hy : ys.length = xs.length) : dfL ys (encL f xs m) = selL (fun i => lf (encL f xs m) i != lf ys i) (fun i => (i : Int)) xs.length := by
  unfold dfL
  rw [encL_len, hy, Nat.max_self]
  refine selL_congr _ fun i hi => ?_
  unfold difP
  rw [encL_len, hy, bne_comm]
  simp [show ¬ xs.length ≤ i by omega]
theorem padL_els {f : Int} {q : List Int} {k : Nat} (hq : Pol f q) : ElsOk f (padL q k) := fun j hj => by
  rw [padL_len] at hj
  unfold padL
  rw [lf_tab, if_pos hj]
  exact hq.1 j
/-- What the divisions find: the message, or none that is near. -/
theorem EeaAt.answer {f : Int} {xs ys : List Int} {k : Nat} (hp : PtsOk f xs) (hy : ys.length = xs.length) (k1 : 1 ≤ k) (hk : k ≤ xs.length) {r0 r1 v0 v1 q r : List Int} (h : EeaAt f (lf xs) (lf ys) xs.length (xs.length + k) r0 r1 v0 v1) (hend : 2 * (r1.length - 1) < xs.length + k) (hd : DivP f r1 v1 q r) :
    (difN ys (encL f xs (padL q k)) ≤ (xs.length - k) / 2 → QDec f xs ys k (padL q k) ∧ decL f xs ys k = padL q k ∧ dfL ys (encL f xs (padL q k)) = blameL f xs ys k) ∧ (¬ difN ys (encL f xs (padL q k)) ≤ (xs.length - k) / 2 → ¬ ∃ m, QDec f xs ys k m) := by
  refine ⟨fun hn => ?_, fun hn => ?_⟩
  · have hq : QDec f xs ys k (padL q k) := ⟨padL_len _ _, padL_els hd.1, by rw [difN_comm]; exact hn⟩
    have he := decL_eq hp hy hk hq
    refine ⟨hq, he, ?_⟩
    rw [dfL_enc hy]
    unfold blameL
    rw [he]
  · rintro ⟨m, hm⟩
    have e := h.message hp hy k1 hk hend hm hd
    rw [e] at hn
    have := hm.2.2
    rw [difN_comm] at this
    exact hn this
end Go.Proofs.YtoonpnfhcmghmabDoor
namespace Go.Proofs.YtoonpnfhcmghmabDoor
open Go.RowKit
/-- A node at block b: its field, its product at block g, its branches. -/
def NodeW (w : World) (b : Nat) (f : Int) (g n : Nat) (pl pr : Option Addr) : Prop :=
  w.cell? ⟨b, 0, none⟩ = some (.int .i64 f) ∧ w.cell? ⟨b, 1, none⟩ = some (.slice (some ⟨g, 0, none⟩) (n + 1) (n + 1)) ∧ w.cell? ⟨b, 2, none⟩ = some (.pointer pl) ∧ w.cell? ⟨b, 3, none⟩ = some (.pointer pr)
theorem NodeW.lt {w : World} {b g n : Nat} {f : Int} {pl pr : Option Addr} (h : NodeW w b f g n pl pr) : b < w.heap.size := block_lt_of_cell h.1
theorem NodeW.keep {w w' : World} {b g n : Nat} {f : Int} {pl pr : Option Addr} (h : NodeW w b f g n pl pr) {N : Nat} (hb : Below N w w') (hN : b < N) : NodeW w' b f g n pl pr :=
  ⟨(hb.cell (p := ⟨b, 0, none⟩) hN).trans h.1, (hb.cell (p := ⟨b, 1, none⟩) hN).trans h.2.1, (hb.cell (p := ⟨b, 2, none⟩) hN).trans h.2.2.1, (hb.cell (p := ⟨b, 3, none⟩) hN).trans h.2.2.2⟩
/-- A tree over the points X 0, .., X (n - 1), at p; d bounds its depth. -/
def TreeW (f : Int) (w : World) : Nat → Option Addr → (Nat → Int) → Nat → Prop
  | 0, _, _, _ => False
  | d + 1, p, X, n => ∃ b g pl pr, p = some ⟨b, 0, none⟩ ∧ NodeW w b f g n pl pr ∧ Own w g (n + 1) (lf (vanL f X n)) ∧
      ((n = 1 ∧ pl = none ∧ pr = none) ∨ ∃ m k, n = m + k ∧ 1 ≤ m ∧ 1 ≤ k ∧ TreeW f w d pl X m ∧ TreeW f w d pr (fun j => X (m + j)) k)
theorem TreeW.keep {f : Int} {w w' : World} (hb : Below w.heap.size w w') : ∀ {d : Nat} {p : Option Addr} {X : Nat → Int} {n : Nat}, TreeW f w d p X n → TreeW f w' d p X n
  | 0, _, _, _, h => h
  | _ + 1, _, _, _, ⟨b, g, pl, pr, h1, h2, h3, h4⟩ => ⟨b, g, pl, pr, h1, h2.keep hb h2.lt, h3.keep hb, h4.imp id fun ⟨m, k, e, m1, k1, hl, hr⟩ => ⟨m, k, e, m1, k1, TreeW.keep hb hl, TreeW.keep hb hr⟩⟩
theorem TreeW.more {f : Int} {w : World} : ∀ {d d' : Nat} {p : Option Addr} {X : Nat → Int} {n : Nat}, TreeW f w d p X n → d ≤ d' → TreeW f w d' p X n
  | 0, _, _, _, _, h, _ => absurd h (by intro h; exact h)
  | d + 1, 0, _, _, _, _, h2 => absurd h2 (by omega)
  | d + 1, d' + 1, _, _, _, ⟨b, g, pl, pr, h1, h2, h3, h4⟩, hd => ⟨b, g, pl, pr, h1, h2, h3, h4.imp id fun ⟨m, k, e, m1, k1, hl, hr⟩ => ⟨m, k, e, m1, k1, hl.more (by omega), hr.more (by omega)⟩⟩
end Go.Proofs.YtoonpnfhcmghmabDoor
namespace Go.Proofs.YtoonpnfhcmghmabDoor
open Go.RowKit
theorem OwnV.grown {g : Nat} {w w' : World} {g2 n cap : Nat} {F : Nat → Int} (h : OwnV w g2 n cap F) (hg : w.grownBy w' (some g)) (hne : g2 ≠ g) : OwnV w' g2 n cap F := by
  obtain ⟨V, h1, h2, h3⟩ := h
  have hlt := OwnV.lt ⟨V, h1, h2, h3⟩
  exact ⟨V, World.rowIs.of_block h1 (hg.block g2 hlt (fun e => by injection e with e; exact hne e)), h2, h3⟩
/-- A drawn list, whose row may still be written. -/
def ZVal (g : Nat) (w : World) (n : Nat) (v : Value) (w' : World) : Prop := ∃ l : List Int, l.length ≤ n ∧ (∃ B, g < B ∧ w.heap.size ≤ B ∧ w'.ownsRow B 3 1 v l.length (xsF (lf l) l.length)) ∧ Cur g w' ∧ w.grownBy w' (some g)
theorem ZVal.of {g : Nat} {w w' : World} {n : Nat} {v : Value} (hB : g < w.heap.size) (h : ZAt g w w' v n) : ZVal g w n v w' := by
  obtain ⟨⟨F, ho⟩, hc, hg, hs⟩ := h
  exact ⟨tab n F, by rw [tab_len]; exact Nat.le_refl _, ⟨w.heap.size, hB, Nat.le_refl _, owns_to_tab ho⟩, hc, hg⟩
theorem ZVal.grown {g : Nat} {w w1 w2 : World} {n : Nat} {v : Value} (h : ZVal g w n v w1) (hg : w1.grownBy w2 (some g)) (hc : Cur g w2) : ZVal g w n v w2 := by
  obtain ⟨l, hl, ⟨B, hB, hB2, ho⟩, _, hg1⟩ := h
  exact ⟨l, hl, ⟨B, hB, hB2, ho.kept hg (zown_ne hB ho)⟩, hc, hg1.trans hg⟩
/-- The value is a slice: empty, or a row that can be written. -/
theorem ZVal.cases {g : Nat} {w w1 : World} {n : Nat} {v : Value} (h : ZVal g w n v w1) : ∃ (l : List Int) (a : Option Addr) (cap : Nat), v = .slice a l.length cap ∧ l.length ≤ n ∧ (l.length = 0 ∨ ∃ g2, a = some ⟨g2, 0, none⟩ ∧ g2 ≠ g ∧ w.heap.size ≤ g2 ∧ OwnV w1 g2 l.length cap (lf l)) := by
  obtain ⟨l, hl, ⟨B, hB, hB2, ho⟩, hc, hg⟩ := h
  by_cases hz : l.length = 0
  · obtain ⟨a, cap, rfl, hcap, hs⟩ := SrcO.of ho hB
    exact ⟨l, a, cap, rfl, hl, .inl hz⟩
  · obtain ⟨g2, cap, rfl, hg2, ho2⟩ := OwnV.of_owns ho hz
    exact ⟨l, _, cap, rfl, hl, .inr ⟨g2, rfl, by omega, by omega, ho2⟩⟩
end Go.Proofs.YtoonpnfhcmghmabDoor
namespace Go.Proofs.YtoonpnfhcmghmabDoor
open Go.RowKit
/-- A list in memory of its own, in a row that may have room. -/
def OwnM (w : World) (B : Nat) (a : Option Addr) (l : List Int) (cap : Nat) : Prop :=
  (a = none ∧ cap = 0 ∧ l.length = 0) ∨ ∃ g, a = some ⟨g, 0, none⟩ ∧ B ≤ g ∧ OwnV w g l.length cap (lf l)
theorem OwnM.src {w : World} {B : Nat} {a : Option Addr} {l : List Int} {cap : Nat} (h : OwnM w B a l cap) : Src w a l.length (lf l) := by
  rcases h with ⟨_, _, h⟩ | ⟨g, rfl, _, h⟩
  · exact .inl h
  · exact h.src
theorem OwnM.keep {w w' : World} {B : Nat} {a : Option Addr} {l : List Int} {cap : Nat} (h : OwnM w B a l cap) (hb : Below w.heap.size w w') : OwnM w' B a l cap :=
  h.imp id fun ⟨g, h1, h2, h3⟩ => ⟨g, h1, h2, h3.keep hb⟩
theorem own_to_v {w : World} {g n : Nat} {F : Nat → Int} (h : Own w g n F) : OwnV w g n n F := ⟨_, h, Nat.le_refl _, fun _ _ => rfl⟩
theorem OwnA.m {w : World} {B : Nat} {a : Option Addr} {l : List Int} {cap : Nat} (h : OwnA w B a l cap) : OwnM w B a l cap := by
  rcases h with h | ⟨g, rfl, rfl, hB, h⟩
  · exact .inl h
  · exact .inr ⟨g, rfl, hB, own_to_v h⟩
theorem v_of_block {w w' : World} {g n cap : Nat} {F : Nat → Int} (h : OwnV w g n cap F) (hb : w'.heap[g]? = w.heap[g]?) : OwnV w' g n cap F := by
  obtain ⟨V, h1, h2, h3⟩ := h
  exact ⟨V, World.rowIs.of_block h1 hb, h2, h3⟩
theorem OwnM.after {w w' : World} {B cap : Nat} {a a2 : Option Addr} {l : List Int} (h : OwnM w B a2 l cap) (hg : Grow w w' a) (hl : Lies a B) : OwnM w' B a2 l cap := by
  rcases hg with rfl | ⟨g, rfl, hg⟩
  · exact h
  · have := hl _ rfl
    refine h.imp id fun ⟨g2, h1, h2, h3⟩ => ⟨g2, h1, h2, v_of_block h3 (hg.block g2 h3.lt (fun e => ?_))⟩
    injection e with e
    have : g < B := this
    omega
def OwnLM (w : World) (l : List Int) (e : Ending) (w' : World) : Prop := ∃ a cap, e = .returned (.slice a l.length cap) ∧ OwnM w' w.heap.size a l cap ∧ Below w.heap.size w w'
theorem OwnL.m {w w' : World} {l : List Int} {e : Ending} (h : OwnL w l e w') : OwnLM w l e w' := by
  obtain ⟨a, cap, h1, h2, h3⟩ := h
  exact ⟨a, cap, h1, h2.m, h3⟩
theorem OwnsL.m {w w' : World} {l : List Int} {e : Ending} (h : OwnsL w l e w') : OwnLM w l e w' := by
  obtain ⟨v, rfl, ho, hb⟩ := h
  by_cases hz : l.length = 0
  · rcases ho.2 with ⟨rfl, _⟩ | ⟨g, cap, cur, rfl, hg, hh, hc, hm, hs, _⟩
    · exact ⟨none, 0, by rw [hz], .inl ⟨rfl, rfl, hz⟩, hb⟩
    · refine ⟨some ⟨g, 0, none⟩, cap, rfl, .inr ⟨g, rfl, hg, fun j => (cur[j]?).getD .nilIface, ⟨cur, hh, by omega, fun j hj => ?_⟩, by omega, fun j hj => by omega⟩, hb⟩
      have : j < cur.size := by omega
      simp [this]
  · obtain ⟨g, cap, rfl, hg, hv⟩ := OwnV.of_owns ho hz
    exact ⟨some ⟨g, 0, none⟩, cap, rfl, .inr ⟨g, rfl, hg, hv⟩, hb⟩
end Go.Proofs.YtoonpnfhcmghmabDoor
namespace Go.Proofs.YtoonpnfhcmghmabDoor
open Go.RowKit
theorem two_start8 (w : World) (u v u2 v2 : Value) (t t2 : TypeId) : TwoB w.heap.size u v t ((w.alloc (.cells #[u, v] t)).alloc (.cells #[u2, v2] t2)) ∧ TwoB (w.heap.size + 1) u2 v2 t2 ((w.alloc (.cells #[u, v] t)).alloc (.cells #[u2, v2] t2)) ∧ Below w.heap.size w ((w.alloc (.cells #[u, v] t)).alloc (.cells #[u2, v2] t2)) := by
  have hz : (w.alloc (.cells #[u, v] t)).heap.size = w.heap.size + 1 := by simp
  have hb1 := below_alloc (w.alloc (.cells #[u, v] t)) (.cells #[u2, v2] t2)
  have t1 := twoB_new (w.alloc (.cells #[u, v] t)) u2 v2 t2
  rw [hz] at t1
  exact ⟨(twoB_new w u v t).keep hb1 (by omega), t1, below_up (below_alloc w _) hb1 (by omega)⟩
/-- Two structs' cells. -/
def FourT (s p : Nat) (u v x y : Value) (W : World) : Prop := W.cell? ⟨s, 0, none⟩ = some u ∧ W.cell? ⟨s, 1, none⟩ = some v ∧ W.cell? ⟨p, 0, none⟩ = some x ∧ W.cell? ⟨p, 1, none⟩ = some y
theorem FourT.mk {s p : Nat} {u v x y : Value} {W : World} (h : TwoC s u v W) (k : TwoC p x y W) : FourT s p u v x y W := ⟨h.1, h.2, k.1, k.2⟩
theorem FourT.keep {s p b : Nat} {u v x y : Value} {W W' : World} (k : FourT s p u v x y W) (hb : Below b W W') (h1 : s < b) (h2 : p < b) : FourT s p u v x y W' := by
  have h := TwoC.keep ⟨k.1, k.2.1⟩ hb h1
  have h' := TwoC.keep ⟨k.2.2.1, k.2.2.2⟩ hb h2
  exact ⟨h.1, h.2, h'.1, h'.2⟩
theorem FourT.store2 {s p q : Nat} {u v x y : Value} {W : World} (k : FourT s p u v x y W) (x2 y2 : Value) (h1 : s ≠ q) (h2 : p ≠ q) : FourT s p u v x y ((W.setCell ⟨q, 0, none⟩ x2).setCell ⟨q, 1, none⟩ y2) :=
  ⟨by rw [cell_set8 h1, cell_set8 h1]; exact k.1, by rw [cell_set8 h1, cell_set8 h1]; exact k.2.1, by rw [cell_set8 h2, cell_set8 h2]; exact k.2.2.1, by rw [cell_set8 h2, cell_set8 h2]; exact k.2.2.2⟩
/-- Half way: a third struct is made. -/
def MidV (w wr : World) (p g n cap : Nat) (f : Int) (a : Option Addr) (X : List Int) (t : TypeId) : Prop :=
  TwoC w.heap.size (.int .i64 f) (.slice a n cap) wr ∧ TwoB (w.heap.size + 1) (.int .i64 0) (.slice none 0 0) t wr ∧ TwoC p (.int .i64 f) (.slice (some ⟨g, 0, none⟩) X.length X.length) wr ∧ p < wr.heap.size ∧ w.heap.size + 1 < p ∧ g ≠ w.heap.size + 1 ∧ Own wr g X.length (lf X) ∧ Below w.heap.size w wr
theorem MidV.a {w w2 : World} {g n cap : Nat} {f : Int} {a : Option Addr} {X : List Int} {t t2 : TypeId} (k : TwoC w.heap.size (.int .i64 f) (.slice a n cap) w2) (r : TwoB (w.heap.size + 1) (.int .i64 0) (.slice none 0 0) t w2) (hg : g ≠ w.heap.size + 1) (ho : Own w2 g X.length (lf X)) (hb : Below w.heap.size w w2) :
    MidV w (w2.alloc (.cells #[.int .i64 f, .slice (some ⟨g, 0, none⟩) X.length X.length] t2)) w2.heap.size g n cap f a X t := by
  have hb2 := below_alloc w2 (.cells #[.int .i64 f, .slice (some ⟨g, 0, none⟩) X.length X.length] t2)
  have hr := r.lt
  exact ⟨k.keep hb2 (by omega), r.keep hb2 hr, (twoB_new w2 _ _ t2).c, by simp, hr, hg, ho.keep hb2, below_up hb hb2 hb.size⟩
theorem MidV.b {w w2 : World} {p g n cap : Nat} {f : Int} {a : Option Addr} {X : List Int} {t t2 : TypeId} {x y : Value} (q : TwoB p x y t2 w2) (hp : w.heap.size + 1 < p) (hgp : g ≠ p) (k : TwoC w.heap.size (.int .i64 f) (.slice a n cap) w2) (r : TwoB (w.heap.size + 1) (.int .i64 0) (.slice none 0 0) t w2) (hg : g ≠ w.heap.size + 1) (ho : Own w2 g X.length (lf X)) (hb : Below w.heap.size w w2) :
    MidV w ((w2.setCell ⟨p, 0, none⟩ (.int .i64 f)).setCell ⟨p, 1, none⟩ (.slice (some ⟨g, 0, none⟩) X.length X.length)) p g n cap f a X t :=
  ⟨k.store2 _ _ (by omega), ((Below.heap_setCell _ ⟨p, 1, none⟩ _ _ (by show w.heap.size + 1 ≠ p; omega)).trans (Below.heap_setCell _ ⟨p, 0, none⟩ _ _ (by show w.heap.size + 1 ≠ p; omega))).trans r, store_cells q, by have := q.lt; simpa using this, hp, hg, own_store ho hgp, below_store hb (by omega)⟩
end Go.Proofs.YtoonpnfhcmghmabDoor
namespace Go.Proofs.YtoonpnfhcmghmabDoor
open Go.RowKit
theorem field_el (f : Int) (a : Option Addr) (n c : Nat) (w : World) : (Instr.field 47 (.agg #[.int .i64 f, .slice a n c]) 1).run Tryd.prog w = .ok (.slice a n c) w := by kernel_rfl
theorem field_vec (f : Int) (a : Option Addr) (n c : Nat) (w : World) : (Instr.field 49 (.agg #[.int .i64 f, .slice a n c]) 0).run Tryd.prog w = .ok (.agg #[.int .i64 f, .slice a n c]) w := by kernel_rfl
theorem OwnVec.to {f : Int} {u w w' : World} {l : List Int} {e : Ending} (h : OwnVec f w l e w') (hb : Below u.heap.size u w) : ∃ g, e = .returned (.agg #[.int .i64 f, .slice (some ⟨g, 0, none⟩) l.length l.length]) ∧ OwnL u l (.returned (.slice (some ⟨g, 0, none⟩) l.length l.length)) w' := by
  obtain ⟨g, he, hg, ho, hb2⟩ := h
  exact ⟨g, he, OwnG.own ⟨g, rfl, Nat.le_trans hb.size hg, ho, below_up hb hb2 hb.size⟩⟩
theorem nil_own (w : World) : OwnL w [] (.returned (.slice none 0 0)) w := ⟨none, 0, rfl, OwnA.nil rfl, Below.refl _ _⟩
end Go.Proofs.YtoonpnfhcmghmabDoor
namespace Go.Proofs.YtoonpnfhcmghmabDoor
open Go.RowKit
set_option maxRecDepth 100000 in
set_option maxHeartbeats 1600000 in
theorem sTrace_on (f : Int) (a : Option Addr) (l : List Int) (cap : Nat) (w : World) (hn : l.length ≤ 1048576) (hs : Src w a l.length (lf l)) (h : VecOk f l) : Calls Tryd.prog 23 #[.int .i64 f, .slice a l.length cap] w (ListL w (trL f l)) := by
  obtain ⟨i0, hi, hz0, hz1, hz2⟩ := info_parts info3
  have HI := Lib.hid hi
  have HZ0 := Lib.hid hz0
  have HZ1 := Lib.hid hz1
  have HZ2 := Lib.hid hz2
  clear hi hz0 hz1 hz2
  have HV : Hid (Calls Tryd.prog 50 #[.int .i64 f, .slice a l.length cap] w (SameB w true)) := Lib.hid (by have := sVectorOk f a l cap w hn hs; rwa [vok_iff.2 h] at this)
  have hn0 := h.pos.1
  have hn5 := h.pos.2
  have h08 := h.f08
  obtain ⟨b, off, rfl, hlt, hc⟩ := vec_some hs hn0
  have c0 : w.cell? ⟨b, off, none⟩ = some (.int .i64 (lf l 0)) := hc 0 hn0
  have HM : Hid (mMul f l.length (lf l 0) = RS (l.length * lf l 0) (P f)) := Lib.hid (by unfold mMul; rw [if_pos h08])
  have HF : Hid (∀ v W, W.ownsRow w.heap.size 3 1 v l.length (xsF (fun t => if t = 0 then RS (l.length * lf l 0) (P f) else 0) l.length) → Below w.heap.size w W → ListL w (trL f l) (.returned v) W) := Lib.hid fun v W ho hb => (owns_to (w := w) (l := trL f l) ho (trL_len _ _).symm (fun j hj => by unfold trL; rw [lf_tab, if_pos hj]) hb).list
  clear hs hc h
  generalize trL f l = TL at *
  generalize RS (l.length * lf l 0) (P f) = X at *
  generalize lf l 0 = A0 at *
  generalize l.length = n at *
  have HO1 : Hid ((w.alloc (.cells #[.int .i64 X] 3)).ownsRow w.heap.size 3 1 (.slice (some ⟨w.heap.size, 0, none⟩) 1 1) 1 (xsF (fun j => if j = 0 then X else 0) 1)) := Lib.hid (own_new w (.int .i64 X) 3)
  go_enter Tryd.func23, Tryd.ntmps23
  go_wp2_with fail
  refine HV.out.mono ?_
  rintro e w' ⟨rfl, rfl⟩
  go_wp2_with fail
  refine (sMul f n A0 w).mono ?_
  rintro e w' ⟨rfl, rfl⟩
  rw [HM.out]
  go_wp2_with fail
  go_loopw [5, 6] (fun v i wr => ∃ k : Nat, i = .int .i64 k ∧ 1 ≤ k ∧ k ≤ n ∧ wr.ownsRow w.heap.size 3 1 v k (xsF (fun j => if j = 0 then X else 0) k) ∧ Below w.heap.size w wr) (fun _ i _ => n - (intOf i).toNat)
  case atStart => exact ⟨1, rfl, by omega, by omega, HO1.out, (Below.refl _ _).alloc (Nat.le_refl _) _⟩
  case round =>
    clear HO1
    obtain ⟨k, rfl, hk1, hk, hown, hnx⟩ := hrel
    have hs := hnx.size
    by_cases h1 : k < n
    · have hd1 : decide ((k : Int) < n) = true := decide_eq_true (by omega)
      have HZ : Hid ((if k = 0 then X else 0) = 0) := Lib.hid (if_neg (by omega))
      go_wp2_with (at_builtin; refine wpList_append_own _ rfl _ _ 22 rfl w.heap.size 3 i0 (.int .i64 0) 1 8 Tryd.underlying22 HI.out HZ0.out HZ1.out HZ2.out rfl (by decide) _ _ _ rfl (hown.alloc _) ⟨wr.heap.size, 0, none⟩ 1 1 [.int .i64 0] rfl rfl ?c1 ?c2 ?c3 ?c4 ?c5 ?_)
      case c1 => exact cell_one_new _ _ _
      case c2 => first | rfl | (intro u hu; simp at hu; subst hu; rfl)
      case c3 => unfold maxLen; omega
      case c4 => omega
      case c5 => first | omega | (simp; omega)
      intro v' w1 hown' hgrow _
      have hbel : Below w.heap.size w w1 := (hnx.alloc hs _).grown hgrow (by simp; omega) (own_ge hown)
      have hown2 : w1.ownsRow w.heap.size 3 1 v' (k + 1) (xsF (fun j => if j = 0 then X else 0) (k + 1)) := by
        rw [← xsF_succ, HZ.out]; exact hown'
      clear hgrow hown hown'
      go_wp2
      go_roundw
      case rel => exact ⟨k + 1, by go_num, by omega, by omega, hown2, hbel⟩
      case measure => simp [intOf]; omega
    · have hd1 : decide ((k : Int) < n) = false := decide_eq_false (by omega)
      obtain rfl : k = n := by omega
      have HO := Lib.hid (HF.out _ wr hown hnx)
      clear hown
      go_wp2
      go_ret
      exact HO.out
theorem sTrace (f : Int) (a : Option Addr) (l : List Int) (cap : Nat) (w : World) (hn : l.length ≤ 1048576) (hs : Src w a l.length (lf l)) : Calls Tryd.prog 23 #[.int .i64 f, .slice a l.length cap] w (ListL w (mTrace f l)) := by
  by_cases h : VecOk f l
  · rw [show mTrace f l = trL f l by unfold mTrace; rw [if_pos h]]
    exact sTrace_on f a l cap w hn hs h
  · rw [show mTrace f l = [] by unfold mTrace; rw [if_neg h]]
    have HV : Hid (Calls Tryd.prog 50 #[.int .i64 f, .slice a l.length cap] w (SameB w false)) := Lib.hid (by have := sVectorOk f a l cap w hn hs; rwa [vok_not.2 h] at this)
    clear hs h
    go_enter Tryd.func23, Tryd.ntmps23
    go_wp2_with fail
    refine HV.out.mono ?_
    rintro e w' ⟨rfl, rfl⟩
    go_wp2
    go_ret
    exact ⟨none, 0, rfl, .inl rfl, Below.refl _ _⟩
end Go.Proofs.YtoonpnfhcmghmabDoor
namespace Go.Proofs.YtoonpnfhcmghmabDoor
open Go.RowKit
theorem own_set8 {W : World} {g n s : Nat} {F G : Nat → Int} {x : Int} (h : Own W g n F) (e : ∀ t, t < n → (if t = s then x else F t) = G t) : Own (W.setCell ⟨g, s, none⟩ (.int .i64 x)) g n G :=
  (World.rowIs.set h s (.int .i64 x)).congr fun t ht => by
    rw [← e t ht]
    by_cases hs : t = s
    · simp [hs]
    · simp [hs]
set_option maxRecDepth 100000 in
set_option maxHeartbeats 3200000 in
theorem substitute_on (f r : Int) (b off n cap B : Nat) (A : Nat → Int) (w : World) (ht : Tab w) (h08 : 0 ≤ f ∧ f ≤ 8) (hA : ∀ j, 0 ≤ A j ∧ A j < P f) (n0 : 0 < n) (hn5 : n ≤ 512) (h2 : ∃ k, n = 2 ^ k) (hr : r % 2 ≠ 0) (hB : B = expN n r) (hlt : b < w.heap.size)
    (hc : ∀ j, j < n → w.cell? ⟨b, off + j, none⟩ = some (.int .i64 (A j))) :
    Calls Tryd.prog 102 #[.int .i64 r, .agg #[.int .i64 f, .slice (some ⟨b, off, none⟩) n cap]] w (fun e w' => ∃ g, e = .returned (.agg #[.int .i64 f, .slice (some ⟨g, 0, none⟩) n n]) ∧ w.heap.size ≤ g ∧ Own w' g n (fun t => RS (sgF n A (t * B ^ (n - 1))) (P f)) ∧ Below w.heap.size w w') := by
  have HT : Hid (∀ W, Below w.heap.size w W → Tab W) := Lib.hid fun W hb => ht.below hb
  have HC := Lib.hid hc
  have hBn : B < 2 * n := by rw [hB]; exact expN_lt n0 r
  have hBo : B % 2 = 1 := by rw [hB]; exact expN_odd n0 hr
  have HRES : Hid (RS r (2 * (n : Int)) = (B : Int)) := Lib.hid (by
    rw [hB]
    unfold RS expN turnN
    have e : ((2 * n : Nat) : Int) = 2 * (n : Int) := by omega
    rw [e, Int.toNat_of_nonneg (Int.emod_nonneg _ (by omega))])
  have kz : ((2 * (n : Int)) == 0) = false := by rw [beq_eq_false_iff_ne]; omega
  have kz2 : ¬ (2 * (n : Int)) = 0 := by omega
  have HSTEP : Hid (∀ k t, k < n → t < n → (if t = auQ n B k then auV f n B k A else auP f n B k A (fun _ => 0) t) = auP f n B (k + 1) A (fun _ => 0) t) := Lib.hid fun k t hk ht => au_step (fun _ => 0) n0 h2 hBo hk (hA k) ht
  have HEND : Hid (∀ t, auP f n B n A (fun _ => 0) t = RS (sgF n A (t * B ^ (n - 1))) (P f)) := Lib.hid fun t => au_end f n0 B A _ t
  have HST0 : Hid (∀ t, auP f n B 0 A (fun _ => 0) t = 0) := Lib.hid fun t => au_start f n B A _ t
  have HA := Lib.hid hA
  have hp := P_bd h08.1 h08.2
  obtain ⟨t0, t1, hb2⟩ := two_start8 w (.int .i64 f) (.slice (some ⟨b, off, none⟩) n cap) (.int .i64 0) (.slice none 0 0) 49 49
  have HB0 := Lib.hid t0
  have HB1 := Lib.hid t1
  have HRS : Hid (∀ W, Calls Tryd.prog 91 #[.int .i64 r, .int .i64 (2 * (n : Int))] W fun e w' => e = .returned (.int .i64 (B : Int)) ∧ W = w') := Lib.hid fun W => by
    have := residue_c r (2 * (n : Int)) W (by omega) (by omega)
    rwa [HRES.out] at this
  generalize auP f n B = AU at *
  clear hc hr hB hBo h2 hA ht t0 t1 HRES
  have hmk := made_n n (by omega)
  go_enter Tryd.func102, Tryd.ntmps102
  go_wp2_with fail
  generalize ((w.alloc (.cells #[.int .i64 f, .slice (some ⟨b, off, none⟩) n cap] 49)).alloc (.cells #[.int .i64 0, .slice none 0 0] 49)) = W0 at *
  obtain ⟨z0, z1⟩ := HB0.out.c
  go_wp2_with fail
  refine (size8_c f (some ⟨b, off, none⟩) n cap W0).mono ?_
  rintro e w1 ⟨rfl, b1⟩
  have c1 := below_up hb2 b1 hb2.size
  have t0 := HB0.out.keep b1 HB0.out.lt
  have t1 := HB1.out.keep b1 HB1.out.lt
  have HT0 := Lib.hid t0
  have HT1 := Lib.hid t1
  have hl0 : w.heap.size < w1.heap.size := t0.lt
  have hl1 : w.heap.size + 1 < w1.heap.size := t1.lt
  clear z0 z1 HB0 HB1 t0 t1 b1 hb2
  go_wp2_with fail
  refine (HRS.out w1).mono ?_
  rintro e w' ⟨rfl, rfl⟩
  clear HRS
  have hbm := below_alloc w1 (.cells (madeCells #[.int .i64 0] n) 3)
  have HTM := Lib.hid (HT0.out.keep hbm hl0)
  obtain ⟨z0, z1⟩ := HTM.out.c
  have HOM : Hid (Own (w1.alloc (.cells (madeCells #[.int .i64 0] n) 3)) w1.heap.size n (AU 0 A (fun _ => 0))) := Lib.hid ((World.rowIs_made w1 (.int .i64 0) n 3).congr fun j _ => by rw [HST0.out])
  go_wp2_with fail
  clear hmk z0 z1
  go_loopw [8, 9, 10, 24] (fun _ _ _ i wr => ∃ k : Nat, i = .int .i64 k ∧ k ≤ n ∧ Own wr w1.heap.size n (AU k A (fun _ => 0)) ∧ Below w1.heap.size w1 wr) (fun _ _ _ i _ => n - (intOf i).toNat)
  case atStart => exact ⟨0, rfl, Nat.zero_le _, HOM.out, hbm⟩
  case round =>
    clear HOM HTM hbm
    obtain ⟨k, rfl, hk, ho, hb⟩ := hrel
    by_cases h1 : k < n
    · have hd1 : decide ((k : Int) < n) = true := decide_eq_true (by omega)
      have cw := below_up c1 hb c1.size
      have d1 : wr.cell? ⟨b, off + k, none⟩ = some (.int .i64 (A k)) := (cw.cell (p := ⟨b, off + k, none⟩) hlt).trans (HC.out k h1)
      obtain ⟨z0, z1⟩ := (HT0.out.keep hb hl0).c
      obtain ⟨KM, hKM⟩ : ∃ KM : Nat, KM = k * B := ⟨_, rfl⟩
      have kb : KM ≤ 512 * 1024 := by rw [hKM]; exact Nat.mul_le_mul (by omega) (by omega)
      have km : (k : Int) * (B : Int) = (KM : Int) := by rw [hKM, Int.natCast_mul]
      have hS := fun t => HSTEP.out k t h1
      unfold auQ auV at hS
      rw [← hKM] at hS
      clear hKM
      have hU : KM % (2 * n) < 2 * n := Nat.mod_lt _ (by omega)
      have qc : IntKind.i64.wrap ((k : Int) * (B : Int)) = (KM : Int) := by rw [km]; exact IntWalk.i64_in _ (by omega)
      have tm : (KM : Int).tmod (2 * (n : Int)) = ((KM % (2 * n) : Nat) : Int) := by
        rw [Int.tmod_eq_emod_of_nonneg (by omega), Int.natCast_emod]; rfl
      generalize KM % (2 * n) = U at *
      have q5 : IntKind.i64.wrap ((U : Nat) : Int) = ((U : Nat) : Int) := IntWalk.i64_in _ (by omega)
      by_cases hUn : U < n
      · have hdu : decide ((n : Int) ≤ (U : Int)) = false := decide_eq_false (by omega)
        simp only [if_pos hUn] at hS
        have HS1 := Lib.hid (own_set8 (s := U) (x := A k) ho hS)
        have HS3 := Lib.hid (hb.setCell (p := ⟨w1.heap.size, U, none⟩) (Nat.le_refl _) (.int .i64 (A k)))
        have cU := World.rowIs.cell ho hUn
        have fU := World.rowIs.frozen ho U
        have q2 : ((U : Nat) : Int).toNat = U := by omega
        have q3 : (0 : Int) ≤ ((U : Nat) : Int) := by omega
        have q4 : ((U : Nat) : Int) < n := by omega
        clear ho hS km z0 z1
        generalize AU k A (fun _ => 0) U = OLD at *
        go_wp2
        go_roundw
        case rel => exact ⟨k + 1, by go_num, by omega, HS1.out, HS3.out⟩
        case measure => simp [intOf]; omega
      · have hdu : decide ((n : Int) ≤ (U : Int)) = true := decide_eq_true (by omega)
        simp only [if_neg hUn] at hS
        obtain ⟨Q, hQ⟩ : ∃ Q, Q = U - n := ⟨_, rfl⟩
        rw [← hQ] at hS
        have hQn : Q < n := by omega
        have hak := HA.out k
        have HSB := Lib.hid (sub_c f 0 (A k) wr (HT.out _ cw) h08.1 h08.2 (by omega) (by omega) hak.1 hak.2)
        obtain ⟨X, hX⟩ : ∃ X, RS (0 - A k) (P f) = X := ⟨_, rfl⟩
        rw [hX] at hS HSB
        have HS1 := Lib.hid (own_set8 (s := Q) (x := X) ho hS)
        have HS3 := Lib.hid (hb.setCell (p := ⟨w1.heap.size, Q, none⟩) (Nat.le_refl _) (.int .i64 X))
        have cU := World.rowIs.cell ho hQn
        have fU := World.rowIs.frozen ho Q
        have e1 : (U : Int) - n = (Q : Int) := by omega
        have q2 : ((Q : Nat) : Int).toNat = Q := by omega
        have q3 : (0 : Int) ≤ ((Q : Nat) : Int) := by omega
        have q4 : ((Q : Nat) : Int) < n := by omega
        have q6 : IntKind.i64.wrap ((U : Int) - n) = (Q : Int) := by rw [e1]; exact IntWalk.i64_in _ (by omega)
        clear ho hS km hQ hX
        generalize AU k A (fun _ => 0) Q = OLD at *
        go_wp2_with fail
        refine HSB.out.mono ?_
        rintro e w' ⟨rfl, rfl⟩
        go_wp2
        go_roundw
        case rel => exact ⟨k + 1, by go_num, by omega, HS1.out, HS3.out⟩
        case measure => simp [intOf]; omega
    · have hd1 : decide ((k : Int) < n) = false := decide_eq_false (by omega)
      obtain rfl : k = n := by omega
      have cw := below_up c1 hb c1.size
      obtain ⟨z0, z1⟩ := (HT0.out.keep hb hl0).c
      have r4 := HT1.out.keep hb hl1
      have rr0 := r4.c.1
      have rr1 := r4.c.2
      have rf0 := heap_frozen (j := 0) r4
      have rf1 := heap_frozen (j := 1) r4
      obtain ⟨e0, e1⟩ := store_cells (u := .int .i64 f) (v := .slice (some ⟨w1.heap.size, 0, none⟩) k k) r4
      have ne4 : w1.heap.size ≠ w.heap.size + 1 := by omega
      have HF : Hid (w.heap.size ≤ w1.heap.size ∧ Own ((wr.setCell ⟨w.heap.size + 1, 0, none⟩ (.int .i64 f)).setCell ⟨w.heap.size + 1, 1, none⟩ (.slice (some ⟨w1.heap.size, 0, none⟩) k k)) w1.heap.size k (fun t => RS (sgF k A (t * B ^ (k - 1))) (P f)) ∧ Below w.heap.size w ((wr.setCell ⟨w.heap.size + 1, 0, none⟩ (.int .i64 f)).setCell ⟨w.heap.size + 1, 1, none⟩ (.slice (some ⟨w1.heap.size, 0, none⟩) k k))) := Lib.hid ⟨by omega, own_store (World.rowIs.congr ho fun t _ => by rw [HEND.out]) ne4, below_store cw (by omega)⟩
      clear ho r4 cw
      go_wp2
      refine bodyPost_ret (v := .agg #[.int .i64 f, .slice (some ⟨w1.heap.size, 0, none⟩) k k]) (by simp [results, Tryd.results102, go_sem, *]) rfl ?_
      exact ⟨_, rfl, HF.out⟩
theorem substitute_c (f g : Int) (a : Option Addr) (l : List Int) (cap : Nat) (w : World) (ht : Tab w) (h : VecOk f l) (hg : g % 2 ≠ 0) (hs : Src w a l.length (lf l)) : Calls Tryd.prog 102 #[.int .i64 g, .agg #[.int .i64 f, .slice a l.length cap]] w (OwnVec f w (autL f l (expN l.length g))) := by
  obtain ⟨b, off, rfl, hlt, hc⟩ := vec_some hs h.pos.1
  refine (substitute_on f g b off l.length cap (expN l.length g) (lf l) w ht h.f08 h.lt h.pos.1 h.pos.2 h.pow2 hg rfl hlt hc).mono ?_
  rintro e w' ⟨g4, rfl, hg4, ho, hb⟩
  have hl := autL_len f l (expN l.length g)
  refine ⟨g4, by rw [hl], hg4, ?_, hb⟩
  rw [hl]
  exact World.rowIs.congr ho fun t ht => by unfold autL; rw [lf_tab, if_pos ht]
end Go.Proofs.YtoonpnfhcmghmabDoor
namespace Go.Proofs.YtoonpnfhcmghmabDoor
open Go.RowKit
theorem store_block {W : World} {R : Nat} {t : TypeId} {u v x y : Value} (h : TwoB R x y t W) : TwoB R u v t ((W.setCell ⟨R, 0, none⟩ u).setCell ⟨R, 1, none⟩ v) := by
  have r0 : W.rowIs R t 2 (fun j => if j = 0 then x else y) := ⟨#[x, y], h, rfl, fun j hj => by
    rcases (show j = 0 ∨ j = 1 by omega) with rfl | rfl <;> rfl⟩
  obtain ⟨cur, h1, h2, h3⟩ := World.rowIs.set (World.rowIs.set r0 0 u) 1 v
  have e : cur = #[u, v] := by
    have a0 := h3 0 (by omega)
    have a1 := h3 1 (by omega)
    apply Array.ext
    · simpa using h2
    · intro i hi1 hi2
      have hi : i = 0 ∨ i = 1 := by simp at hi2; omega
      rcases hi with rfl | rfl
      · simp at a0; rw [Array.getElem?_eq_getElem (by omega)] at a0; simpa using a0
      · simp at a1; rw [Array.getElem?_eq_getElem (by omega)] at a1; simpa using a1
  rw [e] at h1
  exact h1
theorem TwoB.other {W : World} {s R : Nat} {t : TypeId} {u v x y : Value} (h : TwoB s u v t W) (hne : s ≠ R) : TwoB s u v t ((W.setCell ⟨R, 0, none⟩ x).setCell ⟨R, 1, none⟩ y) :=
  ((Below.heap_setCell _ ⟨R, 1, none⟩ y s hne).trans (Below.heap_setCell _ ⟨R, 0, none⟩ x s hne)).trans h
end Go.Proofs.YtoonpnfhcmghmabDoor
namespace Go.Proofs.YtoonpnfhcmghmabDoor
open Go.RowKit
def tsL (f : Int) (l : List Int) (k : Nat) : List Int := tab l.length (tsF f l k)
theorem tsL_len (f : Int) (l : List Int) (k : Nat) : (tsL f l k).length = l.length := tab_len _ _
theorem tsL_end {f : Int} {l : List Int} (h : VecOk f l) : tsL f l l.length = trL f l := by
  refine list_ext (by rw [tsL_len, trL_len]) fun t ht => ?_
  rw [tsL_len] at ht
  rw [← ts_end h ht]
  unfold tsL
  rw [lf_tab, if_pos ht]
theorem VecOk.ts {f : Int} {l : List Int} (h : VecOk f l) (k : Nat) : VecOk f (tsL f l k) := h.tab rfl _ fun _ _ => ts_bd h _ _
theorem ts_plus {f : Int} {l : List Int} (k : Nat) : elL f l.length (mixS (lf (tsL f l k)) (lf (autL f l (2 * k + 1))) 1) = tsL f l (k + 1) := by
  refine list_ext (by rw [elL_len, tsL_len]) fun t ht => ?_
  rw [elL_len] at ht
  rw [lf_elL, if_pos ht]
  unfold tsL
  rw [lf_tab, if_pos ht, ← ts_step ht]
  unfold mixS
  rw [lf_tab, if_pos ht, Int.one_mul]
set_option maxRecDepth 100000 in
set_option maxHeartbeats 3200000 in
theorem plus_c (f : Int) (a a2 : Option Addr) (l m : List Int) (cap cap2 : Nat) (w : World) (ht : Tab w) (h : TwoOk f l m) (hs : Src w a l.length (lf l)) (hs2 : Src w a2 m.length (lf m)) : Calls Tryd.prog 87 #[.agg #[.int .i64 f, .slice a l.length cap], .agg #[.int .i64 f, .slice a2 m.length cap2]] w (OwnVec f w (elL f l.length (mixS (lf l) (lf m) 1))) := by
  have hp := P_bd h.2.1.f08.1 h.2.1.f08.2
  have HTW : Hid (∀ W, Below w.heap.size w W → Calls Tryd.prog 65 #[.int .i64 f, .slice a l.length cap, .slice a2 m.length cap2, .int .i64 1] W (OwnG W (elL f l.length (mixS (lf l) (lf m) 1)))) := Lib.hid fun W hb => by
    have hl := h.2.1.pos
    have := mixed_c f 1 a a2 l.length cap cap2 (lf l) (lf m) W (ht.below hb) h.2.1.f08.1 h.2.1.f08.2 (by omega) (by omega) hl.1 (by omega) h.2.1.lt h.2.2.lt (hs.keep hb) (by rw [h.1]; exact hs2.keep hb)
    rw [← h.1]
    exact this
  clear hs hs2 h ht hp
  generalize elL f l.length (mixS (lf l) (lf m) 1) = R at *
  generalize l.length = n at *
  generalize m.length = n2 at *
  obtain ⟨t0, t1, hb1⟩ := two_start8 w (.int .i64 f) (.slice a n cap) (.int .i64 f) (.slice a2 n2 cap2) 47 47
  have hz : ((w.alloc (.cells #[.int .i64 f, .slice a n cap] 47)).alloc (.cells #[.int .i64 f, .slice a2 n2 cap2] 47)).heap.size = w.heap.size + 2 := by simp
  generalize hV : ((w.alloc (.cells #[.int .i64 f, .slice a n cap] 47)).alloc (.cells #[.int .i64 f, .slice a2 n2 cap2] 47)) = V at *
  have t2 := twoB_new V (.int .i64 0) (.slice none 0 0) 47
  have hb2 := below_alloc V (.cells #[.int .i64 0, .slice none 0 0] 47)
  have t0' := t0.keep hb2 t0.lt
  have t1' := t1.keep hb2 t1.lt
  have hbw := below_up hb1 hb2 hb1.size
  rw [hz] at t2
  rw [← hV] at t0' t1' t2 hbw
  have HK := Lib.hid (FourT.mk t0'.c t1'.c)
  have HB2 := Lib.hid t2
  clear t0 t1 t2 t0' t1' hb1 hb2 hz hV
  go_enter Tryd.func87, Tryd.ntmps87
  go_wp2_with fail
  generalize (((w.alloc (.cells #[.int .i64 f, .slice a n cap] 47)).alloc (.cells #[.int .i64 f, .slice a2 n2 cap2] 47)).alloc (.cells #[.int .i64 0, .slice none 0 0] 47)) = W0 at *
  have kk := HK.out
  have kkd : FourT w.heap.size (w.heap.size + 1) (.int .i64 f) (.slice a n cap) (.int .i64 f) (.slice a2 n2 cap2) W0.drew := kk
  have c3d : Below w.heap.size w W0.drew := hbw.drew
  have r3d : TwoB (w.heap.size + 2) (.int .i64 0) (.slice none 0 0) 47 W0.drew := HB2.out
  have l3d := r3d.lt
  have HPP := Lib.hid (HTW.out _ c3d)
  clear HTW
  go_region_held3 (fun W => W.cell? ⟨w.heap.size, 0, none⟩ = some (.int .i64 f) ∧ W.cell? ⟨w.heap.size, 1, none⟩ = some (.slice a n cap) ∧ W.cell? ⟨w.heap.size + 1, 0, none⟩ = some (.int .i64 f) ∧ W.cell? ⟨w.heap.size + 1, 1, none⟩ = some (.slice a2 n2 cap2))
    (first | exact kk | exact kkd | exact kk4 | exact kk4.store2 _ _ (by omega) (by omega) | go_keep)
    (first
      | (go_at_call 65; refine HPP.out.mono ?_; rintro e w4 ⟨g4, rfl, hg4, o4, b4⟩; have kk4 := kkd.keep b4 (by omega) (by omega); have c4 := below_up c3d b4 c3d.size; have r4 := r3d.keep b4 l3d; have rr0 := r4.c.1; have rr1 := r4.c.2; have rf0 := heap_frozen (j := 0) r4; have rf1 := heap_frozen (j := 1) r4; have ne4 : g4 ≠ w.heap.size + 2 := (by omega); have HO4 := Lib.hid o4))
  obtain ⟨e0, e1⟩ := store_cells (u := .int .i64 f) (v := .slice (some ⟨g4, 0, none⟩) R.length R.length) r4
  have HF : Hid (OwnVec f w R (.returned (.agg #[.int .i64 f, .slice (some ⟨g4, 0, none⟩) R.length R.length])) ((w4.setCell ⟨w.heap.size + 2, 0, none⟩ (.int .i64 f)).setCell ⟨w.heap.size + 2, 1, none⟩ (.slice (some ⟨g4, 0, none⟩) R.length R.length))) := Lib.hid ⟨g4, rfl, Nat.le_trans c3d.size hg4, own_store HO4.out ne4, below_store c4 (by omega)⟩
  clear kk kkd kk4 r4 rr0 rr1 rf0 rf1 HO4 c4 c3d b4 r3d
  generalize ((w4.setCell ⟨w.heap.size + 2, 0, none⟩ (.int .i64 f)).setCell ⟨w.heap.size + 2, 1, none⟩ (.slice (some ⟨g4, 0, none⟩) R.length R.length)) = W5 at *
  go_wp2
  refine bodyPost_ret (v := .agg #[.int .i64 f, .slice (some ⟨g4, 0, none⟩) R.length R.length]) (by simp [results, Tryd.results87, go_sem, *]) rfl ?_
  exact HF.out
/-- The automorphism by the i-th odd number, as a function value. -/
def autV (i : Nat) : Value := .func (.func 102) #[.int .i64 (2 * (i : Int) + 1)] #[]
theorem infoAut : (Tryd.prog.info? 68).map (fun i => (i.zero, i.size, i.bytes)) = some (some .nilFunc, 1, 8) := by kernel_rfl
theorem made_aut (n : Nat) (hn : n ≤ 1048576) (w : World) : (Instr.makeSlice 65 (.int .i64 (n : Int)) (.int .i64 (n : Int))).run Tryd.prog w = .ok (.slice (some ⟨w.heap.size, 0, none⟩) n n) (w.alloc (.cells (madeCells #[.nilFunc] n) 68)) :=
  run_make_row' (P := Tryd.prog) 65 68 .nilFunc 8 Tryd.underlying65 infoAut rfl .i64 .i64 n (by omega) (by omega) w
set_option maxRecDepth 100000 in
set_option maxHeartbeats 1600000 in
theorem auts_c (n : Nat) (w : World) (hn : n ≤ 512) : Calls Tryd.prog 86 #[.int .i64 n] w (fun e w' => e = .returned (.slice (some ⟨w.heap.size, 0, none⟩) n n) ∧ w'.rowIs w.heap.size 68 n autV ∧ Below w.heap.size w w') := by
  have hmf : ∀ (fn : Fn) (first cap : Array Value) (w : World), (Instr.makeFunc fn first cap).run Tryd.prog w = .ok (.func fn first cap) w := fun _ _ _ _ => rfl
  have hmk := made_aut n (by omega)
  go_enter Tryd.func86, Tryd.ntmps86
  go_wp2_with fail
  clear hmk
  go_loopw [4, 9] (fun _ i wr => ∃ j : Nat, i = .int .i64 j ∧ j ≤ n ∧ wr.rowIs w.heap.size 68 n (fun x => if x < j then autV x else .nilFunc) ∧ Below w.heap.size w wr) (fun _ i _ => n - (intOf i).toNat)
  case atStart =>
    refine ⟨0, rfl, Nat.zero_le _, ?_, (Below.refl _ _).alloc (Nat.le_refl _) _⟩
    exact (World.rowIs_made w .nilFunc n 68).congr fun j _ => by simp
  case round =>
    obtain ⟨j, rfl, hj, ho, hb⟩ := hrel
    by_cases h1 : j < n
    · have hd1 : decide ((j : Int) < n) = true := decide_eq_true (by omega)
      have HS : Hid ((wr.setCell ⟨w.heap.size, j, none⟩ (.func (.func 102) #[.int .i64 (2 * (j : Int) + 1)] #[])).rowIs w.heap.size 68 n (fun x => if x < j + 1 then autV x else .nilFunc)) := Lib.hid ((World.rowIs.set ho j (autV j)).congr fun t _ => by
        by_cases h1 : t = j
        · subst h1; simp
        · simp only [if_neg h1]
          by_cases h2 : t < j
          · rw [if_pos h2, if_pos (by omega)]
          · rw [if_neg h2, if_neg (by omega)])
      have c3 := World.rowIs.cell ho h1
      have c4 := World.rowIs.frozen ho j
      clear ho
      simp only [Nat.lt_irrefl, if_false] at c3
      go_wp2
      go_roundw
      case rel => exact ⟨j + 1, by go_num, by omega, HS.out, hb.setCell (Nat.le_refl _) _⟩
      case measure => simp [intOf]; omega
    · have hd : decide (j < n) = false := by simpa using h1
      obtain rfl : j = n := by omega
      go_wp2
      go_ret
      exact ⟨rfl, World.rowIs.congr ho (fun x hx => by simp [hx]), hb⟩
end Go.Proofs.YtoonpnfhcmghmabDoor
namespace Go.Proofs.YtoonpnfhcmghmabDoor
open Go.RowKit
theorem TwoC.al {s : Nat} {u v : Value} {W : World} (k : TwoC s u v W) (hs : s < W.heap.size) (o : Obj) : TwoC s u v (W.alloc o) := k.keep (below_alloc W o) hs
theorem TwoC.al2 {s : Nat} {u v : Value} {W : World} (k : TwoC s u v W) (hs : s < W.heap.size) (o o2 : Obj) : TwoC s u v ((W.alloc o).alloc o2) := (k.al hs o).al (by have := (below_alloc W o).size; omega) o2
/-- Half way of the trace: the sum is a struct with a list of zeros. -/
def MidT (w wr : World) (p g n cap : Nat) (f : Int) (a : Option Addr) (t t2 : TypeId) : Prop :=
  TwoB w.heap.size (.int .i64 f) (.slice a n cap) t2 wr ∧ TwoB (w.heap.size + 1) (.int .i64 0) (.slice none 0 0) t wr ∧ TwoB p (.int .i64 f) (.slice (some ⟨g, 0, none⟩) n n) t wr ∧ Own wr g n (fun _ => 0) ∧ w.heap.size + 1 < p ∧ w.heap.size + 1 < g ∧ g ≠ p ∧ Below w.heap.size w wr
theorem MidT.a {w V : World} {p g n cap : Nat} {f : Int} {a : Option Addr} {t t2 : TypeId} (hp : V.heap.size = p) (r0 : TwoB w.heap.size (.int .i64 f) (.slice a n cap) t2 V) (r1 : TwoB (w.heap.size + 1) (.int .i64 0) (.slice none 0 0) t V) (ho : Own V g n (fun _ => 0)) (hg : w.heap.size + 1 < g) (hb : Below w.heap.size w V) :
    MidT w (V.alloc (.cells #[.int .i64 f, .slice (some ⟨g, 0, none⟩) n n] t)) p g n cap f a t t2 := by
  subst hp
  have hb2 := below_alloc V (.cells #[.int .i64 f, .slice (some ⟨g, 0, none⟩) n n] t)
  have h1 := r1.lt
  have h2 := ho.lt
  exact ⟨r0.keep hb2 r0.lt, r1.keep hb2 h1, twoB_new V _ _ t, ho.keep hb2, h1, hg, by omega, below_up hb hb2 hb.size⟩
theorem MidT.b {w V : World} {p g n cap : Nat} {f : Int} {a : Option Addr} {t t2 : TypeId} {x y : Value} (q : TwoB p x y t V) (hp : w.heap.size + 1 < p) (hgp : g ≠ p) (r0 : TwoB w.heap.size (.int .i64 f) (.slice a n cap) t2 V) (r1 : TwoB (w.heap.size + 1) (.int .i64 0) (.slice none 0 0) t V) (ho : Own V g n (fun _ => 0)) (hg : w.heap.size + 1 < g) (hb : Below w.heap.size w V) :
    MidT w ((V.setCell ⟨p, 0, none⟩ (.int .i64 f)).setCell ⟨p, 1, none⟩ (.slice (some ⟨g, 0, none⟩) n n)) p g n cap f a t t2 :=
  ⟨r0.other (by omega), r1.other (by omega), store_block q, own_store ho hgp, hp, hg, hgp, below_store hb (by omega)⟩
theorem TwoB.al {s : Nat} {u v : Value} {t : TypeId} {W : World} (k : TwoB s u v t W) (o : Obj) : TwoB s u v t (W.alloc o) := k.keep (below_alloc W o) k.lt
theorem twoB_after (W : World) (o : Obj) (u v : Value) (t : TypeId) : TwoB (W.heap.size + 1) u v t ((W.alloc o).alloc (.cells #[u, v] t)) := by
  have h := twoB_new (W.alloc o) u v t
  rwa [World.size_alloc] at h
theorem zero_row (W : World) (n : Nat) : Own (W.alloc (.cells (madeCells #[.int .i64 0] n) 3)) W.heap.size n (fun _ => 0) := (World.rowIs_made W (.int .i64 0) n 3).congr fun _ _ => rfl
theorem MidT.d {w V : World} {n cap : Nat} {f : Int} {a : Option Addr} {t t2 : TypeId} (r0 : TwoB w.heap.size (.int .i64 f) (.slice a n cap) t2 V) (r1 : TwoB (w.heap.size + 1) (.int .i64 0) (.slice none 0 0) t V) (hb : Below w.heap.size w V) :
    MidT w ((V.alloc (.cells #[.int .i64 f, .slice (some ⟨V.heap.size + 1, 0, none⟩) n n] t)).alloc (.cells (madeCells #[.int .i64 0] n) 3)) V.heap.size (V.heap.size + 1) n cap f a t t2 := by
  have h1 := r1.lt
  have hz : (V.alloc (.cells #[.int .i64 f, .slice (some ⟨V.heap.size + 1, 0, none⟩) n n] t)).heap.size = V.heap.size + 1 := by simp
  have ho := zero_row (V.alloc (.cells #[.int .i64 f, .slice (some ⟨V.heap.size + 1, 0, none⟩) n n] t)) n
  rw [hz] at ho
  have b1 := below_up hb (below_alloc V (.cells #[.int .i64 f, .slice (some ⟨V.heap.size + 1, 0, none⟩) n n] t)) hb.size
  exact ⟨(r0.al _).al _, (r1.al _).al _, (twoB_new V _ _ t).al _, ho, h1, by omega, by omega, below_up b1 (below_alloc _ _) b1.size⟩
theorem MidT.c {w V : World} {p n cap : Nat} {f : Int} {a : Option Addr} {t t2 : TypeId} {x y : Value} (q : TwoB p x y t V) (hp : w.heap.size + 1 < p) (r0 : TwoB w.heap.size (.int .i64 f) (.slice a n cap) t2 V) (r1 : TwoB (w.heap.size + 1) (.int .i64 0) (.slice none 0 0) t V) (hb : Below w.heap.size w V) :
    MidT w (((V.setCell ⟨p, 0, none⟩ (.int .i64 f)).setCell ⟨p, 1, none⟩ (.slice (some ⟨V.heap.size, 0, none⟩) n n)).alloc (.cells (madeCells #[.int .i64 0] n) 3)) p V.heap.size n cap f a t t2 := by
  have h1 := r1.lt
  have h2 := q.lt
  have hz : ((V.setCell ⟨p, 0, none⟩ (.int .i64 f)).setCell ⟨p, 1, none⟩ (.slice (some ⟨V.heap.size, 0, none⟩) n n)).heap.size = V.heap.size := by simp
  have ho := zero_row ((V.setCell ⟨p, 0, none⟩ (.int .i64 f)).setCell ⟨p, 1, none⟩ (.slice (some ⟨V.heap.size, 0, none⟩) n n)) n
  rw [hz] at ho
  have b1 := below_store (R := p) (u := .int .i64 f) (v := .slice (some ⟨V.heap.size, 0, none⟩) n n) hb (by omega)
  exact ⟨(r0.other (by omega)).al _, (r1.other (by omega)).al _, (store_block q).al _, ho, hp, by omega, by omega, below_up b1 (below_alloc _ _) b1.size⟩
set_option maxRecDepth 100000 in
set_option maxHeartbeats 6400000 in
theorem trace_c (f : Int) (a : Option Addr) (l : List Int) (cap : Nat) (w : World) (ht : Tab w) (h : VecOk f l) (hs : Src w a l.length (lf l)) : Calls Tryd.prog 52 #[.agg #[.int .i64 f, .slice a l.length cap]] w (OwnVec f w (trL f l)) := by
  have hn0 := h.pos.1
  have hn5 := h.pos.2
  have HSUB : Hid (∀ (k : Nat) W, k < l.length → Below w.heap.size w W → Calls Tryd.prog 102 #[.int .i64 (2 * (k : Int) + 1), .agg #[.int .i64 f, .slice a l.length cap]] W (OwnVec f W (autL f l (2 * k + 1)))) := Lib.hid fun k W hk hb => by
    have := substitute_c f (2 * (k : Int) + 1) a l cap W (ht.below hb) h (by omega) (hs.keep hb)
    have e : expN l.length (2 * (k : Int) + 1) = 2 * k + 1 := expN_small (n := l.length) (b := 2 * k + 1) (by omega)
    rwa [e] at this
  have HPL : Hid (∀ (k gS g2 : Nat) W, Below w.heap.size w W → Own W gS (tsL f l k).length (lf (tsL f l k)) → Own W g2 (autL f l (2 * k + 1)).length (lf (autL f l (2 * k + 1))) → Calls Tryd.prog 87 #[.agg #[.int .i64 f, .slice (some ⟨gS, 0, none⟩) (tsL f l k).length (tsL f l k).length], .agg #[.int .i64 f, .slice (some ⟨g2, 0, none⟩) (autL f l (2 * k + 1)).length (autL f l (2 * k + 1)).length]] W (OwnVec f W (tsL f l (k + 1)))) := Lib.hid fun k gS g2 W hb h1 h2 => by
    have := plus_c f (some ⟨gS, 0, none⟩) (some ⟨g2, 0, none⟩) (tsL f l k) (autL f l (2 * k + 1)) (tsL f l k).length (autL f l (2 * k + 1)).length W (ht.below hb) ⟨(tsL_len _ _ _).trans (autL_len _ _ _).symm, h.ts k, h.aut _⟩ h1.src h2.src
    rw [show elL f (tsL f l k).length (mixS (lf (tsL f l k)) (lf (autL f l (2 * k + 1))) 1) = tsL f l (k + 1) by rw [tsL_len]; exact ts_plus k] at this
    exact this
  have HE0 := Lib.hid (tsL_end h)
  have HTL := Lib.hid (tsL_len f l)
  have HAL := Lib.hid (autL_len f l)
  have HZ0 : Hid (∀ W g, Own W g l.length (fun _ => 0) → Own W g l.length (lf (tsL f l 0))) := Lib.hid fun W g ho => World.rowIs.congr ho fun t htt => by
    unfold tsL
    rw [lf_tab, if_pos htt, ts_zero]
  have HE : Hid (∀ args W, (callFunc 102 args).run Tryd.prog W = .ok (.enter 102 args) W) := Lib.hid fun args W => enters_of Tryd.func102 (by kernel_rfl) rfl args W
  clear hs h ht
  generalize trL f l = R at *
  generalize tsL f l = TS at *
  generalize autL f l = AU at *
  generalize l.length = n at *
  obtain ⟨t0, t1, hb2⟩ := two_start8 w (.int .i64 f) (.slice a n cap) (.int .i64 0) (.slice none 0 0) 49 47
  have HB0 := Lib.hid t0
  have HB1 := Lib.hid t1
  clear t0 t1
  have hmk := made_n n (by omega)
  go_enter Tryd.func52, Tryd.ntmps52
  go_wp2_with fail
  generalize ((w.alloc (.cells #[.int .i64 f, .slice a n cap] 49)).alloc (.cells #[.int .i64 0, .slice none 0 0] 47)) = W0 at *
  go_cut [3] from 6 (fun p wr => ∃ p3 g3, p = .pointer (some ⟨p3, 0, none⟩) ∧ MidT w wr p3 g3 n cap f a 47 49)
  case first =>
    have kb := HB0.out.c
    have k0 : TwoC w.heap.size (.int .i64 f) (.slice a n cap) W0.drew := kb.drew
    have q0 : TwoB w.heap.size (.int .i64 f) (.slice a n cap) 49 W0.drew := HB0.out
    have hbd : Below w.heap.size w W0.drew := hb2.drew
    have r0 : TwoB (w.heap.size + 1) (.int .i64 0) (.slice none 0 0) 47 W0.drew := HB1.out
    have hl0 : w.heap.size + 1 < W0.drew.heap.size := r0.lt
    have hba := below_alloc W0 (.cells #[.int .i64 0, .slice none 0 0] 47)
    have hlb : w.heap.size + 1 < W0.heap.size := HB1.out.lt
    have qa : TwoB w.heap.size (.int .i64 f) (.slice a n cap) 49 (W0.alloc (.cells #[.int .i64 0, .slice none 0 0] 47)).drew := (show TwoB _ _ _ _ (W0.alloc (.cells #[.int .i64 0, .slice none 0 0] 47)) from HB0.out.keep hba (by have := HB0.out.lt; omega))
    have ka := qa.c
    have ra : TwoB (w.heap.size + 1) (.int .i64 0) (.slice none 0 0) 47 (W0.alloc (.cells #[.int .i64 0, .slice none 0 0] 47)).drew := (show TwoB _ _ _ _ (W0.alloc (.cells #[.int .i64 0, .slice none 0 0] 47)) from HB1.out.keep hba hlb)
    have hbda : Below w.heap.size w (W0.alloc (.cells #[.int .i64 0, .slice none 0 0] 47)).drew := (below_up hb2 hba hb2.size).drew
    have ya : TwoB W0.heap.size (.int .i64 0) (.slice none 0 0) 47 (W0.alloc (.cells #[.int .i64 0, .slice none 0 0] 47)).drew := (show TwoB W0.heap.size (.int .i64 0) (.slice none 0 0) 47 (W0.alloc (.cells #[.int .i64 0, .slice none 0 0] 47)) from twoB_new W0 (.int .i64 0) (.slice none 0 0) 47)
    have hla := ra.lt
    have hya := ya.lt
    go_region_held3 (fun W => W.cell? ⟨w.heap.size, 0, none⟩ = some (.int .i64 f) ∧ W.cell? ⟨w.heap.size, 1, none⟩ = some (.slice a n cap))
      (first | exact kb | exact k0 | exact ka | exact k1 | exact k1.al (by omega) _ | exact k1.al2 (by omega) _ _ | exact (k1.al2 (by omega) _ _).store2 _ _ (by omega) | exact (k1.al (by omega) _).store2 _ _ (by omega) | exact (k1.store2 _ _ (by omega)).al (by simp; omega) _ | go_keep)
      (first
        | (go_at_call 85; refine (size8_c f a n cap _).mono ?_; rintro e w1 ⟨rfl, b1⟩; have q1 : TwoB w.heap.size (.int .i64 f) (.slice a n cap) 49 w1 := (by first | exact q0.keep b1 (by omega) | exact qa.keep b1 (by omega)); have k1 := q1.c; have c1 : Below w.heap.size w w1 := (by first | exact below_up hbd b1 hbd.size | exact below_up hbda b1 hbda.size); have r1 : TwoB (w.heap.size + 1) (.int .i64 0) (.slice none 0 0) 47 w1 := (by first | exact r0.keep b1 hl0 | exact ra.keep b1 hla); have l1 := r1.lt; (try have y1 := ya.keep b1 hya); (try have yl1 := y1.lt); (try have yc0 := y1.c.1); (try have yc1 := y1.c.2); (try have yf0 := heap_frozen (j := 0) y1); (try have yf1 := heap_frozen (j := 1) y1); have z1 := (twoB_new w1 (.int .i64 0) (.slice none 0 0) 47).al (.cells (madeCells #[.int .i64 0] n) 3); have zc0 := z1.c.1; have zc1 := z1.c.2; have zf0 := heap_frozen (j := 0) z1; have zf1 := heap_frozen (j := 1) z1; have x1 := twoB_after w1 (.cells (madeCells #[.int .i64 0] n) 3) (.int .i64 0) (.slice none 0 0) 47; have xc0 := x1.c.1; have xc1 := x1.c.2; have xf0 := heap_frozen (j := 0) x1; have xf1 := heap_frozen (j := 1) x1))
    all_goals (go_wp2_with fail; go_meet)
    all_goals first
      | exact ⟨_, w1.heap.size, rfl, MidT.a (by simp) (q1.al _) (r1.al _) (zero_row w1 n) (by omega) (below_up c1 (below_alloc _ _) c1.size)⟩
      | exact ⟨_, _, rfl, MidT.d q1 r1 c1⟩
      | exact ⟨_, _, rfl, MidT.c y1 (by omega) q1 r1 c1⟩
  case rest =>
    obtain ⟨p3, g3, rfl, r0, r1, r3, o3, hp3, hg3, hgp, hb3⟩ := hcut
    have HR0 := Lib.hid r0
    have HR1 := Lib.hid r1
    have HR3 := Lib.hid r3
    have HO3 := Lib.hid (HZ0.out wc g3 o3)
    obtain ⟨k0, k1⟩ := r0.c
    have hl0 := r0.lt
    have hl1 := r1.lt
    have hl3 := r3.lt
    have hlg := o3.lt
    clear r0 r1 r3 o3 hmk HB0 HB1 hb2
    go_wp2_with fail
    refine (size8_c f a n cap wc).mono ?_
    rintro e w1 ⟨rfl, b1⟩
    have c1 := below_up hb3 b1 hb3.size
    go_wp2_with fail
    refine (auts_c n w1 hn5).mono ?_
    rintro e w2 ⟨rfl, hA, b2⟩
    have b12 := below_up b1 b2 b1.size
    have HA := Lib.hid hA
    have hlA := b1.size
    clear hA k0 k1 b1 c1
    go_wp2_with fail
    go_loopw [5, 19] (fun _ i wr => ∃ (k gS : Nat), i = .int .i64 k ∧ k ≤ n ∧ Hid (TwoB w.heap.size (.int .i64 f) (.slice a n cap) 49 wr) ∧ Hid (TwoB (w.heap.size + 1) (.int .i64 0) (.slice none 0 0) 47 wr) ∧ Hid (TwoB p3 (.int .i64 f) (.slice (some ⟨gS, 0, none⟩) n n) 47 wr) ∧ Hid (Own wr gS n (lf (TS k))) ∧ Hid (wr.rowIs w1.heap.size 68 n autV) ∧ w1.heap.size < wr.heap.size ∧ gS ≠ p3 ∧ w.heap.size + 1 < gS ∧ Below w.heap.size w wr) (fun _ i _ => n - (intOf i).toNat)
    case atStart => exact ⟨0, g3, rfl, Nat.zero_le _, Lib.hid (HR0.out.keep b12 hl0), Lib.hid (HR1.out.keep b12 hl1), Lib.hid (HR3.out.keep b12 hl3), Lib.hid (HO3.out.keep b12), HA, HA.out.lt, hgp, hg3, below_up hb3 b12 hb3.size⟩
    case round =>
      clear HR0 HR1 HR3 HO3 HA b12 hgp hg3 hb3 b2
      obtain ⟨k, gS, rfl, hk, HR0, HR1, HR3, HOS, HA, hlw, hgp, hgs, hb⟩ := hrel
      by_cases h1 : k < n
      · have hd1 : decide ((k : Int) < n) = true := decide_eq_true (by omega)
        have cA := World.rowIs.cell HA.out h1
        unfold autV at cA
        have hRd : TwoB p3 (.int .i64 f) (.slice (some ⟨gS, 0, none⟩) n n) 47 wr.drew := HR3.out
        have h0d : TwoB w.heap.size (.int .i64 f) (.slice a n cap) 49 wr.drew := HR0.out
        have h1d : TwoB (w.heap.size + 1) (.int .i64 0) (.slice none 0 0) 47 wr.drew := HR1.out
        have hbd : Below w.heap.size w wr.drew := hb.drew
        have kk := FourT.mk HR0.out.c HR3.out.c
        have kkd : FourT w.heap.size p3 (.int .i64 f) (.slice a n cap) (.int .i64 f) (.slice (some ⟨gS, 0, none⟩) n n) wr.drew := kk
        have HSUBk : Hid (Calls Tryd.prog 102 #[.int .i64 (2 * (k : Int) + 1), .agg #[.int .i64 f, .slice a n cap]] wr.drew (fun e w' => ∃ g4, e = .returned (.agg #[.int .i64 f, .slice (some ⟨g4, 0, none⟩) n n]) ∧ wr.drew.heap.size ≤ g4 ∧ Own w' g4 n (lf (AU (2 * k + 1))) ∧ Below wr.drew.heap.size wr.drew w')) := Lib.hid ((HSUB.out k wr.drew h1 hbd).mono fun e w' ⟨g4, he, hg, ho, hb2⟩ => by
          rw [HAL.out] at he ho
          exact ⟨g4, he, hg, ho, hb2⟩)
        have HPLk : Hid (∀ (g4 : Nat) (W : World), Below w.heap.size w W → Own W gS n (lf (TS k)) → Own W g4 n (lf (AU (2 * k + 1))) → Calls Tryd.prog 87 #[.agg #[.int .i64 f, .slice (some ⟨gS, 0, none⟩) n n], .agg #[.int .i64 f, .slice (some ⟨g4, 0, none⟩) n n]] W (fun e w' => ∃ g5, e = .returned (.agg #[.int .i64 f, .slice (some ⟨g5, 0, none⟩) n n]) ∧ W.heap.size ≤ g5 ∧ Own w' g5 n (lf (TS (k + 1))) ∧ Below W.heap.size W w')) := Lib.hid fun g4 W hbW h1 h2 => by
          have := HPL.out k gS g4 W hbW (by rw [HTL.out]; exact h1) (by rw [HAL.out]; exact h2)
          rw [HTL.out, HAL.out] at this
          refine this.mono fun e w' ⟨g5, he, hg, ho, hb2⟩ => ?_
          rw [HTL.out] at he ho
          exact ⟨g5, he, hg, ho, hb2⟩
        have hE1 := HE.out #[.int .i64 (2 * (k : Int) + 1), .agg #[.int .i64 f, .slice a n cap]] wr.drew
        have HOSd : Hid (Own wr.drew gS n (lf (TS k))) := HOS
        have HAd : Hid (wr.drew.rowIs w1.heap.size 68 n autV) := HA
        have hlwd : w1.heap.size < wr.drew.heap.size := hlw
        have hl3d := hRd.lt
        have hl0d := h0d.lt
        have hl1d := h1d.lt
        have hp31 : p3 < w1.heap.size := by omega
        have hfv := field_vec
        clear HSUB HPL HZ0 HE HE0 HTL HAL HR0 HR1 HR3
        go_wp2_with fail
        obtain ⟨d0, d1, d2, d3⟩ := kk
        obtain ⟨e0, e1, e2, e3⟩ := kkd
        have kkd : FourT w.heap.size p3 (.int .i64 f) (.slice a n cap) (.int .i64 f) (.slice (some ⟨gS, 0, none⟩) n n) wr.drew := ⟨e0, e1, e2, e3⟩
        go_region_with
          (first
            | (go_at_call 102; refine HSUBk.out.mono ?_; rintro e w4 ⟨g4, rfl, hg4, o4, b4⟩; have kk4 := kkd.keep b4 hl0d hl3d; have c4 := below_up hbd b4 hbd.size; have q0 := h0d.keep b4 hl0d; have q1 := h1d.keep b4 hl1d; have q3 := hRd.keep b4 hl3d; have oS4 := HOSd.out.keep b4; have A4 := World.rowIs.of_block HAd.out (b4.block _ hlwd); have z4 := b4.size; obtain ⟨y0, y1, y2, y3⟩ := kk4)
            | (go_at_call 87; refine (HPLk.out g4 _ c4 oS4 o4).mono ?_; rintro e w5 ⟨g5, rfl, hg5, o5, b5⟩; have c5 := below_up c4 b5 c4.size; have p0 := q0.keep b5 q0.lt; have p1 := q1.keep b5 q1.lt; have pp3 := q3.keep b5 q3.lt; have A5 := World.rowIs.of_block A4 (b5.block _ (by omega)); have rr0 := pp3.c.1; have rr1 := pp3.c.2; have rf0 := heap_frozen (j := 0) pp3; have rf1 := heap_frozen (j := 1) pp3; have HO5 := Lib.hid o5; have z5 := b5.size))
        all_goals
          have HREL : Hid (∃ (k2 gS2 : Nat), Value.int .i64 ((k : Int) + 1) = .int .i64 k2 ∧ k2 ≤ n ∧ Hid (TwoB w.heap.size (.int .i64 f) (.slice a n cap) 49 ((w5.setCell ⟨p3, 0, none⟩ (.int .i64 f)).setCell ⟨p3, 1, none⟩ (.slice (some ⟨g5, 0, none⟩) n n))) ∧ Hid (TwoB (w.heap.size + 1) (.int .i64 0) (.slice none 0 0) 47 ((w5.setCell ⟨p3, 0, none⟩ (.int .i64 f)).setCell ⟨p3, 1, none⟩ (.slice (some ⟨g5, 0, none⟩) n n))) ∧ Hid (TwoB p3 (.int .i64 f) (.slice (some ⟨gS2, 0, none⟩) n n) 47 ((w5.setCell ⟨p3, 0, none⟩ (.int .i64 f)).setCell ⟨p3, 1, none⟩ (.slice (some ⟨g5, 0, none⟩) n n))) ∧ Hid (Own ((w5.setCell ⟨p3, 0, none⟩ (.int .i64 f)).setCell ⟨p3, 1, none⟩ (.slice (some ⟨g5, 0, none⟩) n n)) gS2 n (lf (TS k2))) ∧ Hid (((w5.setCell ⟨p3, 0, none⟩ (.int .i64 f)).setCell ⟨p3, 1, none⟩ (.slice (some ⟨g5, 0, none⟩) n n)).rowIs w1.heap.size 68 n autV) ∧ w1.heap.size < ((w5.setCell ⟨p3, 0, none⟩ (.int .i64 f)).setCell ⟨p3, 1, none⟩ (.slice (some ⟨g5, 0, none⟩) n n)).heap.size ∧ gS2 ≠ p3 ∧ w.heap.size + 1 < gS2 ∧ Below w.heap.size w ((w5.setCell ⟨p3, 0, none⟩ (.int .i64 f)).setCell ⟨p3, 1, none⟩ (.slice (some ⟨g5, 0, none⟩) n n))) := Lib.hid ⟨k + 1, g5, by go_num, by omega, Lib.hid (p0.other (by omega)), Lib.hid (p1.other (by omega)), Lib.hid (store_block pp3), Lib.hid (own_store HO5.out (by omega)), Lib.hid (World.rowIs.of_block A5 ((Below.heap_setCell _ ⟨p3, 1, none⟩ _ _ (by show w1.heap.size ≠ p3; omega)).trans (Below.heap_setCell _ ⟨p3, 0, none⟩ _ _ (by show w1.heap.size ≠ p3; omega)))), by have hh := z5; simp; omega, by omega, by omega, below_store c5 (by omega)⟩
          clear d0 d1 d2 d3 e0 e1 e2 e3 kkd b4 b5 c4 c5 q0 q1 q3 oS4 A4 A5 y0 y1 y2 y3 p0 p1 pp3 rr0 rr1 rf0 rf1 HO5 o4 hE1 hRd h0d h1d hbd hb
          go_wp2
          go_roundw
        all_goals first
          | (refine Hid.out (Lib.hid ?_); exact HREL.out)
          | (simp [intOf]; omega)
      · have hd1 : decide ((k : Int) < n) = false := decide_eq_false (by omega)
        obtain rfl : k = n := by omega
        obtain ⟨z0, z1⟩ := HR3.out.c
        have r4 := HR1.out
        have rr0 := r4.c.1
        have rr1 := r4.c.2
        have rf0 := heap_frozen (j := 0) r4
        have rf1 := heap_frozen (j := 1) r4
        obtain ⟨e0, e1⟩ := store_cells (u := .int .i64 f) (v := .slice (some ⟨gS, 0, none⟩) k k) r4
        have HF : Hid (OwnVec f w R (.returned (.agg #[.int .i64 f, .slice (some ⟨gS, 0, none⟩) k k])) ((wr.setCell ⟨w.heap.size + 1, 0, none⟩ (.int .i64 f)).setCell ⟨w.heap.size + 1, 1, none⟩ (.slice (some ⟨gS, 0, none⟩) k k))) := Lib.hid (by
          have hRn : R.length = k := by rw [← HE0.out]; exact HTL.out k
          refine ⟨gS, by rw [hRn], by omega, ?_, below_store hb (by omega)⟩
          rw [hRn, ← HE0.out]
          exact own_store HOS.out (by omega))
        clear HR0 HR1 HR3 HOS HA r4 hb HSUB HPL HE HE0 HTL HAL HZ0
        go_wp2
        refine bodyPost_ret (v := .agg #[.int .i64 f, .slice (some ⟨gS, 0, none⟩) k k]) (by simp [results, Tryd.results52, go_sem, *]) rfl ?_
        exact HF.out
theorem iTrace (f : Int) (a : Option Addr) (l : List Int) (cap : Nat) (w : World) (hn : l.length ≤ 1048576) (hs : Src w a l.length (lf l)) (ht : Tab w) : Calls Tryd.prog 24 #[.int .i64 f, .slice a l.length cap] w (OwnL w (mTrace f l)) := by
  have hV := iVectorOk f a l cap w hn hs ht
  by_cases h : VecOk f l
  · rw [show mTrace f l = trL f l by unfold mTrace; rw [if_pos h]]
    rw [vok_iff.2 h] at hV
    have HV := Lib.hid hV
    have HO : Hid (∀ W, Below w.heap.size w W → Calls Tryd.prog 52 #[.agg #[.int .i64 f, .slice a l.length cap]] W (OwnVec f W (trL f l))) := Lib.hid fun W hb => trace_c f a l cap W (ht.below hb) h (hs.keep hb)
    clear hs h hV
    generalize trL f l = R at *
    have hfe := field_el
    go_enter Tryd.func24, Tryd.ntmps24
    go_wp2_with fail
    refine HV.out.mono ?_
    rintro e w' ⟨rfl, rfl⟩
    go_wp2_with fail
    refine (ringOf_c f a l.length cap w).mono ?_
    rintro e w1 ⟨rfl, b1⟩
    go_wp2_with fail
    refine (HO.out w1 b1).mono ?_
    rintro e w2 h2
    obtain ⟨g, rfl, h3⟩ := h2.to b1
    have HF := Lib.hid h3
    clear h3 HV HO h2
    go_wp2
    go_ret
    exact HF.out
  · rw [show mTrace f l = [] by unfold mTrace; rw [if_neg h]]
    rw [vok_not.2 h] at hV
    have HV := Lib.hid hV
    clear hs h hV
    go_enter Tryd.func24, Tryd.ntmps24
    go_wp2_with fail
    refine HV.out.mono ?_
    rintro e w' ⟨rfl, rfl⟩
    go_wp2
    go_ret
    exact nil_own w
end Go.Proofs.YtoonpnfhcmghmabDoor
namespace Go.Proofs.YtoonpnfhcmghmabDoor
theorem len_mTrace (f : Int) (l : List Int) (n : l.length ≤ 1048576) : (mTrace f l).length ≤ 1048576 := by
  unfold mTrace; split
  · rw [trL_len]; exact n
  · exact Nat.zero_le _
end Go.Proofs.YtoonpnfhcmghmabDoor
