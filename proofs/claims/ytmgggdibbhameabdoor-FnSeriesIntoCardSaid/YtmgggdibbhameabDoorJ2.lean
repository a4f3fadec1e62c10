/-
  Texts of the proofs of this seat, joined (part 2).
-/
import Derived.Shelf.Abstract
import Derived.Deep.RegionHeld3
import Derived.Deep.AppendLies
import Derived.Test.YtmgggdibbhameabDoorJ1
namespace Go.Proofs.YtmgggdibbhameabDoor
open Mth
theorem sumN_mod {p : Int} {f g : Nat → Int} {n : Nat} (h : ∀ i, i < n → f i % p = g i % p) : sumN f n % p = sumN g n % p := by
  induction n with
  | zero => rfl
  | succ n ih => rw [sumN, sumN]; exact emod_add_congr (ih fun i hi => h i (by omega)) (h n (by omega))
theorem sumN_zero {f : Nat → Int} {n : Nat} (h : ∀ i, i < n → f i = 0) : sumN f n = 0 := by
  induction n with
  | zero => rfl
  | succ n ih => rw [sumN, ih fun i hi => h i (by omega), h n (by omega)]; rfl
theorem sumN_split (f : Nat → Int) (a b : Nat) : sumN f (a + b) = sumN f a + sumN (fun i => f (a + i)) b := by
  induction b with
  | zero => simp [sumN]
  | succ b ih => rw [← Nat.add_assoc, sumN, ih, sumN]; omega
theorem sumN_swap (F : Nat → Nat → Int) (n m : Nat) : sumN (fun i => sumN (fun j => F i j) m) n = sumN (fun j => sumN (fun i => F i j) n) m := by
  induction n with
  | zero => rw [sumN]; exact (sumN_zero fun _ _ => rfl).symm
  | succ n ih => rw [sumN, ih, ← sumN_add]; rfl
theorem sumN_mul_r (c : Int) (g : Nat → Int) (n : Nat) : sumN (fun i => g i * c) n = sumN g n * c := by
  rw [Int.mul_comm (sumN g n), ← sumN_mul]
  exact sumN_congr fun i _ => Int.mul_comm _ _
/-- Even and odd places. -/
theorem sumN_even (F : Nat → Int) (h : Nat) : sumN F (2 * h) = sumN (fun u => F (2 * u)) h + sumN (fun u => F (2 * u + 1)) h := by
  induction h with
  | zero => rfl
  | succ h ih => rw [show 2 * (h + 1) = 2 * h + 1 + 1 by omega, sumN, sumN, ih, sumN, sumN]; omega
theorem pow_mod_congr {p a b : Int} (k : Nat) (h : a % p = b % p) : a ^ k % p = b ^ k % p := by
  induction k with
  | zero => rw [Int.pow_zero, Int.pow_zero]
  | succ k ih => rw [Int.pow_succ, Int.pow_succ]; exact emod_mul_congr ih h
theorem one_pow_mod {p a : Int} (k : Nat) (h : a % p = 1 % p) : a ^ k % p = 1 % p := by
  have := pow_mod_congr k h
  rwa [Int.one_pow] at this
theorem one_p {f : Int} (h0 : 0 ≤ f) (h8 : f ≤ 8) : (1 : Int) % P f = 1 := by
  have := P_bd h0 h8
  exact Int.emod_eq_of_lt (by omega) (by omega)
/-- w is a root of order n in field f, v its inverse. -/
structure Rt (f : Int) (w v : Int) (n : Nat) : Prop where
  h0 : 0 ≤ f
  h8 : f ≤ 8
  n0 : 0 < n
  ord : ∀ m, w ^ m % P f = 1 % P f ↔ n ∣ m
  inv : (w * v) % P f = 1 % P f
theorem Rt.full {f w v : Int} {n : Nat} (h : Rt f w v n) : w ^ n % P f = 1 % P f := (h.ord n).2 (Nat.dvd_refl n)
/-- Exponents count modulo n. -/
theorem Rt.exp {f w v : Int} {n : Nat} (h : Rt f w v n) {a b : Nat} (e : a % n = b % n) : w ^ a % P f = w ^ b % P f := by
  have step : ∀ c, w ^ c % P f = w ^ (c % n) % P f := fun c => by
    have : w ^ c = (w ^ n) ^ (c / n) * w ^ (c % n) := by rw [← Int.pow_mul, ← Int.pow_add, Nat.div_add_mod]
    rw [this]
    have := emod_mul_congr (one_pow_mod (c / n) h.full) (show w ^ (c % n) % P f = w ^ (c % n) % P f from rfl)
    rwa [Int.one_mul] at this
  rw [step a, step b, e]
/-- The transform, unreduced. -/
def ftF (w : Int) (n : Nat) (A : Nat → Int) (i : Nat) : Int := sumN (fun j => A j * w ^ (i * j)) n
end Go.Proofs.YtmgggdibbhameabDoor
namespace Go.Proofs.YtmgggdibbhameabDoor
open Mth
/-- Half way round is -1. -/
theorem Rt.half {f w v : Int} {m : Nat} (h : Rt f w v (m + m)) : (w ^ m + 1) % P f = 0 := by
  have m0 : 0 < m := by have := h.n0; omega
  refine Classical.byContradiction fun hs => ?_
  have h1 : (w ^ m - 1) % P f ≠ 0 := fun e => by
    have : w ^ m % P f = 1 % P f := by
      have := emod_add_congr (p := P f) (a := w ^ m - 1) (b := 0) (c := 1) (d := 1) (by rw [e]; simp) rfl
      rwa [Int.sub_add_cancel, Int.zero_add] at this
    have := Nat.le_of_dvd m0 ((h.ord m).1 this)
    omega
  have := mul_nz h.h0 h.h8 h1 hs
  refine this ?_
  have e : (w ^ m - 1) * (w ^ m + 1) = w ^ (m + m) - 1 := by
    rw [Int.pow_add, Int.mul_add, Int.sub_mul, Int.sub_mul]
    omega
  rw [e]
  exact emod_zero_of_sub h.full
theorem rv_bit (b c : Nat) (hc : c < 2) : ∀ j, rv (2 * b + c) (j + 1) = c * 2 ^ j + rv b j
  | 0 => by simp [rv]; omega
  | j + 1 => by
    rw [rv, rv_bit b c hc j]
    show 2 * (c * 2 ^ j + rv b j) + (2 * b + c) / 2 ^ (j + 1) % 2 = c * 2 ^ (j + 1) + rv b (j + 1)
    rw [rv, Nat.pow_succ, Nat.mul_comm (2 ^ j) 2, ← Nat.div_div_eq_div_mul, show (2 * b + c) / 2 = b by omega, Nat.mul_add, ← Nat.mul_assoc c, Nat.mul_comm c 2, Nat.mul_assoc 2 c, Nat.add_assoc]
/-- After s levels: each block of 2^s is the transform of every 2^(k-s)-th number of X. -/
def Lev (f w : Int) (k s : Nat) (X V : Nat → Int) : Prop :=
  ∀ b t, b < 2 ^ (k - s) → t < 2 ^ s → V (b * 2 ^ s + t) % P f = sumN (fun u => X (rv b (k - s) + u * 2 ^ (k - s)) * w ^ (t * (u * 2 ^ (k - s)))) (2 ^ s) % P f
theorem Lev.start {f w : Int} {k : Nat} {X V : Nat → Int} (h : ∀ j, j < 2 ^ k → V j % P f = X (rv j k) % P f) : Lev f w k 0 X V := by
  intro b t hb ht
  have : t = 0 := by have : t < 1 := ht; omega
  subst this
  rw [Nat.sub_zero] at hb ⊢
  rw [show b * 2 ^ 0 + 0 = b by simp, h b hb]
  show _ = (sumN _ 0 + X (rv b k + 0 * 2 ^ k) * w ^ (0 * (0 * 2 ^ k))) % P f
  simp [sumN]
/-- One level. -/
theorem Lev.step {f w v : Int} {k s : Nat} {X V V' : Nat → Int} (hr : Rt f w v (2 ^ k)) (hs : s < k) (h : Lev f w k s X V)
    (hlo : ∀ b t, b < 2 ^ (k - s - 1) → t < 2 ^ s → V' (b * 2 ^ (s + 1) + t) % P f = (V (b * 2 ^ (s + 1) + t) + V (b * 2 ^ (s + 1) + t + 2 ^ s) * w ^ (t * 2 ^ (k - s - 1))) % P f)
    (hhi : ∀ b t, b < 2 ^ (k - s - 1) → t < 2 ^ s → V' (b * 2 ^ (s + 1) + t + 2 ^ s) % P f = (V (b * 2 ^ (s + 1) + t) - V (b * 2 ^ (s + 1) + t + 2 ^ s) * w ^ (t * 2 ^ (k - s - 1))) % P f) : Lev f w k (s + 1) X V' := by
  intro b t hb ht
  obtain ⟨m, hm⟩ : ∃ m, m = 2 ^ (k - s - 1) := ⟨_, rfl⟩
  obtain ⟨g, hg⟩ : ∃ g, g = 2 ^ s := ⟨_, rfl⟩
  have e1 : k - (s + 1) = k - s - 1 := by omega
  have e2 : k - s = k - s - 1 + 1 := by omega
  have p1 : (2 : Nat) ^ (k - s) = 2 * m := by rw [e2, Nat.pow_succ, hm, Nat.mul_comm]
  have p2 : (2 : Nat) ^ (s + 1) = 2 * g := by rw [Nat.pow_succ, hg, Nat.mul_comm]
  have p3 : (2 : Nat) ^ k = g * m + g * m := by
    have : k = s + (k - s - 1) + 1 := by omega
    rw [this, Nat.pow_succ, Nat.pow_add, ← hg, ← hm]
    omega
  have hr2 : Rt f w v (g * m + g * m) := by rw [← p3]; exact hr
  have hhalf := hr2.half
  rw [e1, ← hm] at hb
  rw [← hm] at hlo hhi
  rw [← hg] at hlo hhi
  rw [p2] at hlo hhi ht
  rw [e1, ← hm, p2]
  -- the two blocks below
  have r0 : rv (2 * b) (k - s) = rv b (k - s - 1) := by rw [e2]; have := rv_bit b 0 (by omega) (k - s - 1); simpa using this
  have r1 : rv (2 * b + 1) (k - s) = rv b (k - s - 1) + m := by rw [e2]; have := rv_bit b 1 (by omega) (k - s - 1); rw [Nat.one_mul, ← hm] at this; rw [show k - s - 1 + 1 - 1 = k - s - 1 by omega]; omega
  have LE : ∀ t, t < g → V (b * (2 * g) + t) % P f = sumN (fun u => X (rv b (k - s - 1) + u * (2 * m)) * w ^ (t * (u * (2 * m)))) g % P f := fun t ht => by
    have := h (2 * b) t (by rw [p1]; omega) (by rw [← hg]; exact ht)
    rw [r0, p1, ← hg, show 2 * b * g = b * (2 * g) by rw [Nat.mul_comm 2 b, Nat.mul_assoc]] at this
    exact this
  have LO : ∀ t, t < g → V (b * (2 * g) + t + g) % P f = sumN (fun u => X (rv b (k - s - 1) + m + u * (2 * m)) * w ^ (t * (u * (2 * m)))) g % P f := fun t ht => by
    have := h (2 * b + 1) t (by rw [p1]; omega) (by rw [← hg]; exact ht)
    rw [r1, p1, ← hg, show (2 * b + 1) * g + t = b * (2 * g) + t + g by rw [Nat.add_mul, Nat.mul_comm 2 b, Nat.mul_assoc]; omega] at this
    exact this
  -- the whole sum, split
  have split : ∀ t, sumN (fun u => X (rv b (k - s - 1) + u * m) * w ^ (t * (u * m))) (2 * g) = sumN (fun u => X (rv b (k - s - 1) + u * (2 * m)) * w ^ (t * (u * (2 * m)))) g + sumN (fun u => X (rv b (k - s - 1) + m + u * (2 * m)) * w ^ (t * (u * (2 * m)))) g * w ^ (t * m) := fun t => by
    rw [sumN_even, ← sumN_mul_r]
    congr 1
    · exact sumN_congr fun u _ => by rw [show 2 * u * m = u * (2 * m) by rw [Nat.mul_comm 2 u, Nat.mul_assoc]]
    · exact sumN_congr fun u _ => by
        rw [show (2 * u + 1) * m = m + u * (2 * m) by rw [Nat.add_mul, Nat.mul_comm 2 u, Nat.mul_assoc]; omega, ← Nat.add_assoc, Int.mul_assoc, ← Int.pow_add, ← Nat.mul_add, Nat.add_comm m]
  by_cases htg : t < g
  · rw [hlo b t hb htg, split t]
    exact emod_add_congr (LE t htg) (emod_mul_congr (LO t htg) rfl)
  · obtain ⟨r, rfl⟩ : ∃ r, t = r + g := ⟨t - g, by omega⟩
    have hrg : r < g := by omega
    rw [← Nat.add_assoc, hhi b r hb hrg, split (r + g)]
    -- w^((r+g) u 2m) = w^(r u 2m), w^((r+g) m) = - w^(r m)
    have x1 : ∀ u, w ^ ((r + g) * (u * (2 * m))) % P f = w ^ (r * (u * (2 * m))) % P f := fun u => hr2.exp (by
      rw [Nat.add_mul, show g * (u * (2 * m)) = (g * m + g * m) * u by rw [← Nat.mul_assoc, Nat.mul_comm g u, Nat.mul_assoc, Nat.mul_comm _ u, ← Nat.mul_add g, Nat.two_mul], Nat.add_mul_mod_self_left])
    have x2 : w ^ ((r + g) * m) % P f = (- w ^ (r * m)) % P f := by
      rw [Nat.add_mul, Int.pow_add]
      have : (w ^ (r * m) * w ^ (g * m)) % P f = (w ^ (r * m) * (-1)) % P f := emod_mul_congr rfl (by
        have := emod_add_congr (p := P f) (a := w ^ (g * m) + 1) (b := 0) (c := -1) (d := -1) (by rw [hhalf]; simp) rfl
        rw [Int.zero_add] at this
        rw [← this]
        congr 1
        omega)
      rw [this]
      congr 1
      omega
    have y1 : (sumN (fun u => X (rv b (k - s - 1) + u * (2 * m)) * w ^ ((r + g) * (u * (2 * m)))) g) % P f = V (b * (2 * g) + r) % P f := by
      rw [LE r hrg]
      exact sumN_mod fun u _ => emod_mul_congr rfl (x1 u)
    have y2 : (sumN (fun u => X (rv b (k - s - 1) + m + u * (2 * m)) * w ^ ((r + g) * (u * (2 * m)))) g) % P f = V (b * (2 * g) + r + g) % P f := by
      rw [LO r hrg]
      exact sumN_mod fun u _ => emod_mul_congr rfl (x1 u)
    have y3 := emod_add_congr y1 (emod_mul_congr y2 x2)
    rw [y3]
    congr 1
    rw [Int.mul_neg]
    omega
/-- All levels: the transform. -/
theorem Lev.last {f w : Int} {k : Nat} {X V : Nat → Int} (h : Lev f w k k X V) {t : Nat} (ht : t < 2 ^ k) : V t % P f = ftF w (2 ^ k) X t % P f := by
  have := h 0 t (by simp) ht
  rw [Nat.sub_self, Nat.zero_mul, Nat.zero_add] at this
  rw [this]
  unfold ftF
  congr 1
  exact sumN_congr fun u _ => by simp [rv]
end Go.Proofs.YtmgggdibbhameabDoor
namespace Go.Proofs.YtmgggdibbhameabDoor
open Mth
def VecOk (f : Int) (l : List Int) : Prop := (0 ≤ mLog l.length ∧ mLog l.length ≤ T f) ∧ ∀ j, j < l.length → 0 ≤ lf l j ∧ lf l j < P f
/-- The log of a vector. -/
theorem VecOk.log {f : Int} {l : List Int} (h : VecOk f l) : ∃ k : Nat, k ≤ 9 ∧ l.length = 2 ^ k ∧ mLog l.length = k ∧ hasK f k := by
  rcases log_cases (l.length : Int) with ⟨k, hk, hn, hl⟩ | ⟨_, hl⟩
  · refine ⟨k, hk, ?_, hl, (hasK_iff f k).2 ⟨by omega, by have := h.1.2; omega⟩⟩
    have e : ((2 ^ k : Nat) : Int) = 2 ^ k := by rw [Int.natCast_pow]; rfl
    omega
  · have := h.1.1
    omega
theorem VecOk.f08 {f : Int} {l : List Int} (h : VecOk f l) : 0 ≤ f ∧ f ≤ 8 := by
  obtain ⟨k, _, _, _, hk⟩ := h.log
  exact hk.1
theorem VecOk.lt {f : Int} {l : List Int} (h : VecOk f l) (j : Nat) : 0 ≤ lf l j ∧ lf l j < P f := by
  have h08 := h.f08
  have hp := P_bd h08.1 h08.2
  by_cases hj : j < l.length
  · exact h.2 j hj
  · rw [lf_out l (by omega)]; omega
/-- A list of the same length whose numbers are reduced is a vector. -/
theorem VecOk.tab {f : Int} {l : List Int} (h : VecOk f l) {n : Nat} (hn : n = l.length) (F : Nat → Int) (hF : ∀ j, j < n → 0 ≤ F j ∧ F j < P f) : VecOk f (tab n F) := by
  subst hn
  refine ⟨by rw [tab_len]; exact h.1, fun j hj => ?_⟩
  rw [tab_len] at hj
  rw [lf_tab, if_pos hj]
  exact hF j hj
end Go.Proofs.YtmgggdibbhameabDoor
namespace Go.Proofs.YtmgggdibbhameabDoor
open Mth
/-- Within one level: the blocks below B done, and of block B the first j pairs. -/
def stDone (h B j t : Nat) : Prop := t < B * (2 * h) ∨ (t < B * (2 * h) + 2 * h ∧ t % (2 * h) % h < j)
instance (h B j t : Nat) : Decidable (stDone h B j t) := inferInstanceAs (Decidable (_ ∨ _))
end Go.Proofs.YtmgggdibbhameabDoor
namespace Go.Proofs.YtmgggdibbhameabDoor
open Mth
/-- Zeros behind. -/
def padL (l : List Int) (n : Nat) : List Int := tab n (lf l)
theorem padL_len (l : List Int) (n : Nat) : (padL l n).length = n := tab_len _ _
theorem lf_padL (l : List Int) {n : Nat} (h : l.length ≤ n) (j : Nat) : lf (padL l n) j = lf l j := by
  unfold padL
  rw [lf_tab]
  by_cases hj : j < n
  · rw [if_pos hj]
  · rw [if_neg hj, lf_out l (by omega)]
end Go.Proofs.YtmgggdibbhameabDoor
namespace Go.Proofs.YtmgggdibbhameabDoor
open Go.RowKit
theorem wpList_copy_pad {w : World} {ops : Array Oper} {rest : List Oper} {o : Oper} {a : Act} {Q : Exit → Act → World → Prop} (hgd : o.guard = none) (d s : Operand)
    (ho : o.op = .call { callee := .builtin .copy, args := #[d, s], argTypes := #[22, 22] }) (N m cap1 cap2 : Nat) (a2 : Option Addr) (F : Nat → Int)
    (hd : a.eval d = .slice (some ⟨w.heap.size, 0, none⟩) N cap1) (hs : a.eval s = .slice a2 m cap2) (hmN : m ≤ N) (hsrc : Src w a2 m F)
    (h : ∀ w', Hid (Own w' w.heap.size N (fun j => if 0 ≤ j ∧ j < 0 + m then F (j - 0) else 0)) → Below w.heap.size w w' → wpList Tryd.prog ops Q rest (a.put o.dst (goInt m)) w') :
    wpList Tryd.prog ops Q (o :: rest) a (w.alloc (.cells (madeCells #[.int .i64 0] N) 3)) := by
  refine wpList_copy_splice hgd d s 22 22 ho 3 Tryd.underlying22 size3 (some ⟨w.heap.size, 0, none⟩) a2 N cap1 m cap2 hd hs w.heap.size 0 (madeCells #[.int .i64 0] N).toList 3 (by unfold World.alloc; simp) (xsF F m) (by rw [xsF_len]; exact (Nat.min_eq_left hmN).symm) ?_ (by rw [xsF_len, made_len]; omega) xsF_one w.heap.size w ((Below.refl _ _).alloc (Nat.le_refl _) _) (Nat.le_refl _) (fun w' hg hb => ?_)
  · intro hpos
    rw [xsF_len] at hpos
    refine ⟨rfl, ?_⟩
    rcases hsrc with hz | ⟨b, off2, rfl, hlt, hc⟩
    · omega
    · refine ⟨_, rfl, fun j v hv => ?_⟩
      obtain ⟨hj, rfl⟩ := xsF_at hv
      rw [add_at]
      exact (((Below.refl _ w).alloc (Nat.le_refl _) _).cell (p := ⟨b, off2 + j, none⟩) hlt).trans (hc j (by omega))
  · rw [xsF_len]
    exact h w' (Lib.hid (own_splice (by omega) hg.out)) hb
theorem padded_c (a : Option Addr) (l : List Int) (cap N : Nat) (w : World) (hl : l.length ≤ N) (hN : N ≤ 1048576) (hs : Src w a l.length (lf l)) : Calls Tryd.prog 89 #[.slice a l.length cap, .int .i64 N] w (OwnG w (padL l N)) := by
  have hmk := made_n N hN
  have HS := Lib.hid hs
  have HO : Hid (∀ w', Own w' w.heap.size N (fun j => if j < l.length then lf l j else 0) → Below w.heap.size w w' → OwnG w (padL l N) (.returned (.slice (some ⟨w.heap.size, 0, none⟩) N N)) w') := Lib.hid fun w' ho hb => OwnG.of_own ho (padL_len l N).symm (Nat.le_refl _) (fun j hj => by
    unfold padL
    rw [lf_tab, if_pos hj]
    by_cases hjl : j < l.length
    · rw [if_pos hjl]
    · rw [if_neg hjl, lf_out l (by omega)]) hb
  clear hs
  go_enter Tryd.func89, Tryd.ntmps89
  go_wp2_with (with_reducible refine wpList_copy_pad rfl _ _ rfl N l.length N cap _ (lf l) rfl rfl hl HS.out ?_)
  intro w2 H2 hb
  have HR := Lib.hid (HO.out w2 H2.out hb)
  clear hmk H2 HO
  go_wp2
  go_ret
  exact HR.out
end Go.Proofs.YtmgggdibbhameabDoor
namespace Go.Proofs.YtmgggdibbhameabDoor
/-- The first n coefficients agree modulo p. -/
def EqN (p : Int) (n : Nat) (A B : Nat → Int) : Prop := ∀ i, i < n → A i % p = B i % p
theorem EqN.refl (p : Int) (n : Nat) (A : Nat → Int) : EqN p n A A := fun _ _ => rfl
theorem EqN.symm {p : Int} {n : Nat} {A B : Nat → Int} (h : EqN p n A B) : EqN p n B A := fun i hi => (h i hi).symm
theorem EqN.trans {p : Int} {n : Nat} {A B C : Nat → Int} (h : EqN p n A B) (k : EqN p n B C) : EqN p n A C := fun i hi => (h i hi).trans (k i hi)
theorem EqN.mono {p : Int} {n m : Nat} {A B : Nat → Int} (h : EqN p n A B) (hm : m ≤ n) : EqN p m A B := fun i hi => h i (by omega)
theorem EqN.of_eq {p : Int} {n : Nat} {A B : Nat → Int} (h : A = B) : EqN p n A B := by subst h; exact EqN.refl _ _ _
theorem EqN.mul {p : Int} {n : Nat} {A A' B B' : Nat → Int} (h : EqN p n A A') (k : EqN p n B B') : EqN p n (mulS A B) (mulS A' B') := fun i hi => by
  show cv i A B % p = cv i A' B' % p
  rw [cv_sum, cv_sum]
  exact sumN_mod fun j hj => emod_mul_congr (h j (by omega)) (k (i - j) (by omega))
def addS (A B : Nat → Int) : Nat → Int := fun j => A j + B j
theorem EqN.add {p : Int} {n : Nat} {A A' B B' : Nat → Int} (h : EqN p n A A') (k : EqN p n B B') : EqN p n (addS A B) (addS A' B') := fun i hi => emod_add_congr (h i hi) (k i hi)
theorem mul_addS (A B C : Nat → Int) : mulS A (addS B C) = addS (mulS A B) (mulS A C) := funext fun k => cv_add_r k A B C
theorem add_mulS (A B C : Nat → Int) : mulS (addS A B) C = addS (mulS A C) (mulS B C) := funext fun k => cv_add_l k A B C
/-- The coefficients times their places. -/
def thS (A : Nat → Int) : Nat → Int := fun i => (i : Int) * A i
theorem thS_mul (A B : Nat → Int) : thS (mulS A B) = addS (mulS (thS A) B) (mulS A (thS B)) := by
  funext k
  show (k : Int) * cv k A B = cv k (thS A) B + cv k A (thS B)
  rw [cv_sum, cv_sum, cv_sum, ← sumN_mul, ← sumN_add]
  exact sumN_congr fun i hi => by
    unfold thS
    have e : (k : Int) = (i : Int) + ((k - i : Nat) : Int) := by omega
    rw [e, Int.add_mul]
    congr 1
    · rw [Int.mul_assoc]
    · rw [← Int.mul_assoc, ← Int.mul_assoc, Int.mul_comm (A i)]
theorem thS_add (A B : Nat → Int) : thS (addS A B) = addS (thS A) (thS B) := funext fun _ => Int.mul_add _ _ _
theorem EqN.th {p : Int} {n : Nat} {A B : Nat → Int} (h : EqN p n A B) : EqN p n (thS A) (thS B) := fun i hi => emod_mul_congr rfl (h i hi)
/-- What does not vanish in a field can be cancelled. -/
theorem cancelF {f : Int} (h0 : 0 ≤ f) (h8 : f ≤ 8) {c x y : Int} (hc : c % P f ≠ 0) (h : (c * x) % P f = (c * y) % P f) : x % P f = y % P f := by
  have hz : RS c (P f) ≠ 0 := hc
  have hi := (inv_one h0 h8 hz).1
  obtain ⟨v, hv⟩ : ∃ v, mPower f c (-1) = v := ⟨_, rfl⟩
  rw [hv] at hi
  have e1 : (v * c) % P f = 1 % P f := by
    have h2 : (v * (c % P f)) % P f = 1 := hi
    rw [Int.mul_emod, Int.emod_emod_of_dvd c (Int.dvd_refl _), ← Int.mul_emod] at h2
    rw [h2, one_p h0 h8]
  have key : ∀ z : Int, (v * (c * z)) % P f = z % P f := fun z => by
    rw [← Int.mul_assoc, Int.mul_emod, e1, ← Int.mul_emod, Int.one_mul]
  rw [← key x, ← key y]
  exact emod_mul_congr rfl h
/-- A place below n ≤ P does not vanish in the field. -/
theorem place_ne {f : Int} {i n : Nat} (hn : (n : Int) ≤ P f) (i0 : i ≠ 0) (hi : i < n) : (i : Int) % P f ≠ 0 := by
  rw [Int.emod_eq_of_lt (by omega) (by omega)]
  omega
theorem cv_head (A B : Nat → Int) (k : Nat) : cv (k + 1) A B = A 0 * B (k + 1) + cv k (tl A) B := rfl
/-- Two series with one product by A, where A's first coefficient does not vanish. -/
theorem EqN.cancel {f : Int} (h0 : 0 ≤ f) (h8 : f ≤ 8) {n : Nat} {A B C : Nat → Int} (hA : A 0 % P f ≠ 0) (h : EqN (P f) n (mulS A B) (mulS A C)) : EqN (P f) n B C := by
  intro i
  induction i using Nat.strongRecOn with
  | ind i ih =>
    intro hi
    have hi2 := h i hi
    cases i with
    | zero => exact cancelF h0 h8 hA hi2
    | succ k =>
      have e1 : cv k (tl A) B % P f = cv k (tl A) C % P f := by
        rw [cv_sum, cv_sum]
        exact sumN_mod fun j hj => emod_mul_congr rfl (ih (k - j) (by omega) (by omega))
      have h2 : (A 0 * B (k + 1) + cv k (tl A) B) % P f = (A 0 * C (k + 1) + cv k (tl A) C) % P f := hi2
      have h3 : (A 0 * B (k + 1)) % P f = (A 0 * C (k + 1)) % P f := by
        rw [Int.emod_eq_emod_iff_emod_sub_eq_zero] at h2 e1 ⊢
        have e : A 0 * B (k + 1) + cv k (tl A) B - (A 0 * C (k + 1) + cv k (tl A) C) = (A 0 * B (k + 1) - A 0 * C (k + 1)) + (cv k (tl A) B - cv k (tl A) C) := by omega
        rw [e, Int.add_emod, e1, Int.add_zero, Int.emod_emod_of_dvd _ (Int.dvd_refl _)] at h2
        exact h2
      exact cancelF h0 h8 hA h3
/-- B is the inverse of A. -/
def IsInv (p : Int) (n : Nat) (A B : Nat → Int) : Prop := EqN p n (mulS A B) oneS
theorem IsInv.unique {p : Int} {n : Nat} {A B C : Nat → Int} (hB : IsInv p n A B) (hC : IsInv p n A C) : EqN p n B C := by
  have h1 : EqN p n (mulS B (mulS A C)) (mulS B oneS) := (EqN.refl p n B).mul hC
  have h2 : EqN p n (mulS (mulS A B) C) (mulS oneS C) := hB.mul (EqN.refl p n C)
  have e : mulS B (mulS A C) = mulS (mulS A B) C := by rw [← mul_assocS, mul_commS B A]
  rw [e, mul_commS B oneS, one_mul] at h1
  rw [one_mul] at h2
  exact h1.symm.trans h2
/-- The logarithm L and the series A that it is of. -/
def IsLog (p : Int) (n : Nat) (L A : Nat → Int) : Prop := EqN p n (thS A) (mulS (thS L) A)
/-- The exponential is known by its logarithm. -/
theorem IsLog.exp_unique {f : Int} (h0 : 0 ≤ f) (h8 : f ≤ 8) {n : Nat} (hn : (n : Int) ≤ P f) {L A B : Nat → Int} (hA : IsLog (P f) n L A) (hB : IsLog (P f) n L B) (h : A 0 % P f = B 0 % P f) : EqN (P f) n A B := by
  intro i
  induction i using Nat.strongRecOn with
  | ind i ih =>
    intro hi
    cases i with
    | zero => exact h
    | succ k =>
      have e : ∀ C : Nat → Int, cv (k + 1) (thS L) C = cv k (tl (thS L)) C := fun C => by
        rw [cv_head]
        show ((0 : Nat) : Int) * L 0 * C (k + 1) + _ = _
        simp
      have h1 := hA (k + 1) hi
      have h2 := hB (k + 1) hi
      have e1 : cv k (tl (thS L)) A % P f = cv k (tl (thS L)) B % P f := by
        rw [cv_sum, cv_sum]
        exact sumN_mod fun j hj => emod_mul_congr rfl (ih (k - j) (by omega) (by omega))
      have h3 : (thS A (k + 1)) % P f = (thS B (k + 1)) % P f := by
        rw [h1, h2]
        show cv (k + 1) (thS L) A % P f = cv (k + 1) (thS L) B % P f
        rw [e, e, e1]
      exact cancelF h0 h8 (place_ne hn (by omega) hi) h3
/-- The logarithm is known by its series. -/
theorem IsLog.log_unique {f : Int} (h0 : 0 ≤ f) (h8 : f ≤ 8) {n : Nat} (hn : (n : Int) ≤ P f) {L M A : Nat → Int} (hA : A 0 % P f ≠ 0) (hL : IsLog (P f) n L A) (hM : IsLog (P f) n M A) (h : L 0 % P f = M 0 % P f) : EqN (P f) n L M := by
  have h1 : EqN (P f) n (thS L) (thS M) := by
    have h2 := hL.symm.trans hM
    rw [mul_commS (thS L), mul_commS (thS M)] at h2
    exact h2.cancel h0 h8 hA
  intro i hi
  by_cases i0 : i = 0
  · subst i0; exact h
  · exact cancelF h0 h8 (place_ne hn i0 hi) (h1 i hi)
/-- The logarithm of a product. -/
theorem IsLog.mul {p : Int} {n : Nat} {L M A B : Nat → Int} (hA : IsLog p n L A) (hB : IsLog p n M B) : IsLog p n (addS L M) (mulS A B) := by
  unfold IsLog at *
  rw [thS_mul, thS_add, add_mulS]
  refine EqN.add ?_ ?_
  · have := hA.mul (EqN.refl p n B)
    rwa [mul_assocS] at this
  · have := (EqN.refl p n A).mul hB
    rwa [← mul_assocS, mul_commS A (thS M), mul_assocS] at this
/-- From the inverse to the logarithm. -/
theorem IsLog.of_inv {p : Int} {n : Nat} {L A V : Nat → Int} (hV : IsInv p n A V) (h : EqN p n (thS L) (mulS (thS A) V)) : IsLog p n L A := by
  unfold IsLog
  have h1 := h.mul (EqN.refl p n A)
  rw [mul_assocS, mul_commS V A] at h1
  have h2 := (EqN.refl p n (thS A)).mul hV
  rw [mul_commS (thS A) oneS, one_mul] at h2
  exact (h1.trans h2).symm
theorem IsInv.mul {p : Int} {n : Nat} {A B V W : Nat → Int} (hA : IsInv p n A V) (hB : IsInv p n B W) : IsInv p n (mulS A B) (mulS V W) := by
  unfold IsInv at *
  have e : mulS (mulS A B) (mulS V W) = mulS (mulS A V) (mulS B W) := by
    rw [mul_assocS, ← mul_assocS B V W, mul_commS B V, mul_assocS V B W, ← mul_assocS]
  rw [e]
  have := hA.mul hB
  rwa [one_mul] at this
/-- Powers. -/
theorem EqN.pow {p : Int} {n : Nat} {A B : Nat → Int} (h : EqN p n A B) : ∀ k : Nat, EqN p n (powS A k) (powS B k)
  | 0 => EqN.refl _ _ _
  | k + 1 => (EqN.pow h k).mul h
theorem pow_oneS (p : Int) (n : Nat) : ∀ k : Nat, EqN p n (powS oneS k) oneS
  | 0 => EqN.refl _ _ _
  | k + 1 => by
    have := (pow_oneS p n k).mul (EqN.refl p n oneS)
    rwa [one_mul] at this
theorem pow_mulS (A B : Nat → Int) : ∀ k : Nat, powS (mulS A B) k = mulS (powS A k) (powS B k)
  | 0 => (one_mul oneS).symm
  | k + 1 => by
    show mulS (powS (mulS A B) k) (mulS A B) = mulS (mulS (powS A k) A) (mulS (powS B k) B)
    rw [pow_mulS A B k, mul_assocS, mul_assocS, ← mul_assocS (powS B k) A B, mul_commS (powS B k) A, mul_assocS A (powS B k) B]
/-- a^e for every integer e; V the inverse of A. -/
def zpS (A V : Nat → Int) (e : Int) : Nat → Int := if 0 ≤ e then powS A e.toNat else powS V (-e).toNat
theorem IsInv.powers {p : Int} {n : Nat} {A V : Nat → Int} (h : IsInv p n A V) (k : Nat) : EqN p n (mulS (powS A k) (powS V k)) oneS := by
  rw [← pow_mulS]
  exact (EqN.pow h k).trans (pow_oneS p n k)
theorem IsInv.less {p : Int} {n : Nat} {A V : Nat → Int} (h : IsInv p n A V) (i k : Nat) : EqN p n (mulS (powS A (i + k)) (powS V k)) (powS A i) := by
  rw [pow_addS, mul_assocS]
  have := (EqN.refl p n (powS A i)).mul (h.powers k)
  rwa [mul_commS (powS A i) oneS, one_mul] at this
theorem IsInv.symm {p : Int} {n : Nat} {A V : Nat → Int} (h : IsInv p n A V) : IsInv p n V A := by
  unfold IsInv at *
  rwa [mul_commS]
theorem IsInv.zpow {p : Int} {n : Nat} {A V : Nat → Int} (h : IsInv p n A V) (d e : Int) : EqN p n (mulS (zpS A V d) (zpS A V e)) (zpS A V (d + e)) := by
  unfold zpS
  by_cases hd : 0 ≤ d
  · by_cases he : 0 ≤ e
    · rw [if_pos hd, if_pos he, if_pos (by omega), ← pow_addS, show (d + e).toNat = d.toNat + e.toNat by omega]
      exact EqN.refl _ _ _
    · rw [if_pos hd, if_neg he]
      by_cases hs : 0 ≤ d + e
      · rw [if_pos hs, show d.toNat = (d + e).toNat + (-e).toNat by omega]
        exact h.less _ _
      · rw [if_neg hs, show (-e).toNat = (-(d + e)).toNat + d.toNat by omega, mul_commS]
        exact h.symm.less _ _
  · by_cases he : 0 ≤ e
    · rw [if_neg hd, if_pos he, mul_commS]
      by_cases hs : 0 ≤ d + e
      · rw [if_pos hs, show e.toNat = (d + e).toNat + (-d).toNat by omega]
        exact h.less _ _
      · rw [if_neg hs, show (-d).toNat = (-(d + e)).toNat + e.toNat by omega, mul_commS]
        exact h.symm.less _ _
    · rw [if_neg hd, if_neg he, if_neg (by omega), ← pow_addS, show (-(d + e)).toNat = (-d).toNat + (-e).toNat by omega]
      exact EqN.refl _ _ _
end Go.Proofs.YtmgggdibbhameabDoor
namespace Go.Proofs.YtmgggdibbhameabDoor
/-- B starts with 1, and its square is A. -/
def IsSqrt (p : Int) (n : Nat) (B A : Nat → Int) : Prop := B 0 % p = 1 % p ∧ EqN p n (mulS B B) A
theorem two_ne {f : Int} (h0 : 0 ≤ f) (h8 : f ≤ 8) : (2 : Int) % P f ≠ 0 := by
  have h := P_bd h0 h8
  rw [Int.emod_eq_of_lt (by omega) (by omega)]
  omega
theorem IsSqrt.unique {f : Int} (h0 : 0 ≤ f) (h8 : f ≤ 8) {n : Nat} {A B C : Nat → Int} (hB : IsSqrt (P f) n B A) (hC : IsSqrt (P f) n C A) : EqN (P f) n B C := by
  have h1 := hB.2.trans hC.2.symm
  have hs : addS B C 0 % P f ≠ 0 := by
    have : (B 0 + C 0) % P f = (1 + 1) % P f := emod_add_congr hB.1 hC.1
    show (B 0 + C 0) % P f ≠ 0
    rw [this]
    exact two_ne h0 h8
  refine EqN.cancel h0 h8 hs ?_
  rw [add_mulS, add_mulS, mul_commS C B]
  intro i hi
  show (cv i B B + cv i B C) % P f = (cv i B C + cv i C C) % P f
  rw [Int.add_comm (cv i B C) (cv i C C)]
  exact emod_add_congr (h1 i hi) rfl
/-- Powers of a series that starts with 0 start later and later. -/
theorem powS_low {X : Nat → Int} (h : X 0 = 0) : ∀ i k : Nat, k < i → powS X i k = 0
  | 0, _, hk => by omega
  | i + 1, k, hk => by
    show cv k (powS X i) X = 0
    rw [cv_sum, sumN_zero]
    intro j hj
    by_cases hji : j < i
    · rw [powS_low h i j hji, Int.zero_mul]
    · rw [show k - j = 0 by omega, h, Int.mul_zero]
/-- The composition: the first n coefficients of A, at the powers of X. -/
def inS (A X : Nat → Int) (n : Nat) : Nat → Int := fun k => sumN (fun i => A i * powS X i k) n
theorem inS_mul (A X G : Nat → Int) (k : Nat) : ∀ n : Nat, cv k (inS A X n) G = sumN (fun i => A i * cv k (powS X i) G) n
  | 0 => cv_zero_l fun _ _ => rfl
  | n + 1 => by
    have e : inS A X (n + 1) = fun j => inS A X n j + A n * powS X n j := rfl
    rw [e, cv_add_l, cv_smul_l, inS_mul A X G k n]
    rfl
theorem inS_mul_r (A X G : Nat → Int) (k n : Nat) : cv k G (inS A X n) = sumN (fun i => A i * cv k G (powS X i)) n := by
  rw [cv_comm, inS_mul]
  exact sumN_congr fun i _ => by rw [cv_comm]
/-- Sums over i and j by their sum. -/
theorem sum_shift {C h : Nat → Int} {n i : Nat} (hi : i ≤ n) (hz : ∀ s, n ≤ s → h s = 0) : sumN (fun j => C j * h (i + j)) n = sumN (fun s => (if i ≤ s then C (s - i) else 0) * h s) n := by
  have e1 : sumN (fun j => C j * h (i + j)) n = sumN (fun j => C j * h (i + j)) (n - i) := sumN_more (by omega) fun j h1 _ => by rw [hz (i + j) (by omega), Int.mul_zero]
  have e2 : sumN (fun s => (if i ≤ s then C (s - i) else 0) * h s) n = sumN (fun s => (if i ≤ s then C (s - i) else 0) * h s) (i + (n - i)) := by rw [show i + (n - i) = n by omega]
  rw [e1, e2, sumN_split, sumN_zero (f := fun s => (if i ≤ s then C (s - i) else 0) * h s) (fun s hs => by rw [if_neg (by omega), Int.zero_mul]), Int.zero_add]
  exact sumN_congr fun j _ => by rw [if_pos (by omega), Nat.add_sub_cancel_left]
/-- A product put into X is the product of what both are in X. -/
theorem inS_prod {A C X : Nat → Int} (hX : X 0 = 0) {n k : Nat} (hk : k < n) : cv k (inS A X n) (inS C X n) = inS (mulS A C) X n k := by
  rw [inS_mul]
  have hz : ∀ s, n ≤ s → powS X s k = 0 := fun s hs => powS_low hX s k (by omega)
  have e1 : sumN (fun i => A i * cv k (powS X i) (inS C X n)) n = sumN (fun i => sumN (fun s => (if i ≤ s then A i * C (s - i) else 0) * powS X s k) n) n := sumN_congr fun i hi => by
    rw [inS_mul_r]
    have e2 : sumN (fun j => C j * cv k (powS X i) (powS X j)) n = sumN (fun j => C j * powS X (i + j) k) n := sumN_congr fun j _ => by
      rw [pow_addS]
      rfl
    rw [e2, sum_shift (h := fun s => powS X s k) (by omega) hz, ← sumN_mul]
    exact sumN_congr fun s _ => by
      by_cases h : i ≤ s
      · rw [if_pos h, if_pos h, ← Int.mul_assoc]
      · rw [if_neg h, if_neg h]; simp
  rw [e1, sumN_swap]
  exact sumN_congr fun s hs => by
    rw [sumN_mul_r]
    congr 1
    have e3 : sumN (fun i => if i ≤ s then A i * C (s - i) else 0) n = sumN (fun i => if i ≤ s then A i * C (s - i) else 0) (s + 1) := sumN_more (by omega) fun i h1 _ => by rw [if_neg (by omega)]
    rw [e3]
    show _ = cv s A C
    rw [cv_sum]
    exact sumN_congr fun i hi => by rw [if_pos (by omega)]
/-- Horner's step. -/
theorem inS_horner (A X : Nat → Int) (n : Nat) : inS A X (n + 1) = addS (fun j => A 0 * oneS j) (mulS X (inS (tl A) X n)) := by
  funext k
  show sumN (fun i => A i * powS X i k) (n + 1) = A 0 * oneS k + cv k X (inS (tl A) X n)
  rw [sumN_first, inS_mul_r]
  congr 1
  exact sumN_congr fun i _ => by
    show A (i + 1) * cv k (powS X i) X = A (i + 1) * cv k X (powS X i)
    rw [cv_comm k X]
theorem EqN.inS {p : Int} {m n : Nat} {A B X Y : Nat → Int} (hA : EqN p n A B) (hX : EqN p m X Y) : EqN p m (inS A X n) (inS B Y n) := fun k hk => sumN_mod fun i hi => emod_mul_congr (hA i hi) (hX.pow i k hk)
/-- The product of the 1 + r x. -/
def linS (r : Int) : Nat → Int := fun j => if j = 0 then 1 else if j = 1 then r else 0
def elS (R : Nat → Int) : Nat → (Nat → Int)
  | 0 => oneS
  | m + 1 => mulS (elS R m) (linS (R m))
/-- The signed powers of r; their sums. -/
def sgS (r : Int) : Nat → Int := fun k => if k = 0 then 0 else (-1) ^ (k - 1) * r ^ k
def swS (R : Nat → Int) (m : Nat) : Nat → Int := fun k => sumN (fun i => sgS (R i) k) m
theorem cv_lin (A : Nat → Int) (r : Int) (k : Nat) : cv (k + 1) A (linS r) = A (k + 1) + r * A k := by
  rw [cv_comm, cv_head]
  have e : cv k (tl (linS r)) A = r * A k := by
    have := cv_mono k 0 r A
    rw [if_pos (Nat.zero_le _), Nat.sub_zero] at this
    rw [← this]
    exact cv_congr (fun j _ => by
      show (if j + 1 = 0 then 1 else if j + 1 = 1 then r else 0) = if j = 0 then r else 0
      rw [if_neg (by omega)]
      by_cases h : j = 0
      · rw [if_pos h, if_pos (by omega)]
      · rw [if_neg h, if_neg (by omega)]) (fun _ _ => rfl)
  rw [e]
  show 1 * A (k + 1) + r * A k = _
  rw [Int.one_mul]
theorem sg_lin (r : Int) : mulS (sgS r) (linS r) = thS (linS r) := by
  funext k
  cases k with
  | zero => show sgS r 0 * linS r 0 = ((0 : Nat) : Int) * linS r 0; simp [sgS]
  | succ k =>
    show cv (k + 1) (sgS r) (linS r) = ((k + 1 : Nat) : Int) * linS r (k + 1)
    rw [cv_lin]
    cases k with
    | zero => simp [sgS, linS, Int.pow_succ]
    | succ k =>
      have e1 : sgS r (k + 1 + 1) = (-1) ^ (k + 1) * r ^ (k + 2) := rfl
      have e2 : sgS r (k + 1) = (-1) ^ k * r ^ (k + 1) := rfl
      have e3 : linS r (k + 1 + 1) = 0 := rfl
      rw [e1, e2, e3, Int.mul_zero, Int.pow_succ (-1) k, Int.pow_succ r (k + 1)]
      have e4 : r * ((-1) ^ k * r ^ (k + 1)) = (-1) ^ k * (r ^ (k + 1) * r) := by
        rw [Int.mul_comm r, Int.mul_assoc]
      rw [e4, Int.mul_assoc ((-1) ^ k), Int.neg_mul, Int.one_mul, Int.mul_neg]
      omega
/-- Newton's identities: the places times the coefficients are the coefficients times the signed sums of powers. -/
theorem newton (R : Nat → Int) : ∀ m : Nat, thS (elS R m) = mulS (swS R m) (elS R m)
  | 0 => by
    funext k
    show (k : Int) * oneS k = cv k (swS R 0) oneS
    have e : mulS (swS R 0) oneS = swS R 0 := by rw [mul_commS, one_mul]
    have e2 : cv k (swS R 0) oneS = swS R 0 k := congrFun e k
    rw [e2]
    show (k : Int) * (if k = 0 then 1 else 0) = 0
    by_cases h : k = 0
    · subst h; simp
    · rw [if_neg h, Int.mul_zero]
  | m + 1 => by
    have ih := newton R m
    show thS (mulS (elS R m) (linS (R m))) = mulS (swS R (m + 1)) (mulS (elS R m) (linS (R m)))
    have e : swS R (m + 1) = addS (swS R m) (sgS (R m)) := rfl
    rw [thS_mul, ih, e, add_mulS, mul_assocS, ← sg_lin]
    congr 1
    rw [← mul_assocS, mul_commS (elS R m) (sgS (R m)), mul_assocS]
/-- S, signed, are what the identities ask of E (places from 1 on). -/
def sgnS (S : Nat → Int) : Nat → Int := fun k => if k = 0 then 0 else (-1) ^ (k - 1) * S (k - 1)
def IsNewt (p : Int) (n : Nat) (E S : Nat → Int) : Prop := EqN p (n + 1) (thS E) (mulS (sgnS S) E)
theorem pm_one : ∀ k : Nat, ((-1 : Int)) ^ k = 1 ∨ ((-1 : Int)) ^ k = -1
  | 0 => .inl rfl
  | k + 1 => by
    rw [Int.pow_succ]
    rcases pm_one k with h | h
    · exact .inr (by rw [h]; rfl)
    · exact .inl (by rw [h]; rfl)
theorem IsNewt.unique {f : Int} (h0 : 0 ≤ f) (h8 : f ≤ 8) {n : Nat} {E S T : Nat → Int} (hE : E 0 % P f ≠ 0) (hS : IsNewt (P f) n E S) (hT : IsNewt (P f) n E T) : EqN (P f) n S T := by
  have h1 : EqN (P f) (n + 1) (sgnS S) (sgnS T) := by
    have h2 := hS.symm.trans hT
    rw [mul_commS (sgnS S), mul_commS (sgnS T)] at h2
    exact h2.cancel h0 h8 hE
  intro i hi
  have h3 := h1 (i + 1) (by omega)
  have e : ∀ U : Nat → Int, sgnS U (i + 1) = (-1) ^ i * U i := fun U => rfl
  rw [e, e] at h3
  rcases pm_one i with h | h
  · rw [h, Int.one_mul, Int.one_mul] at h3; exact h3
  · rw [h] at h3
    have h4 : (-1 * (-1 * S i)) % P f = (-1 * (-1 * T i)) % P f := emod_mul_congr rfl h3
    rwa [← Int.mul_assoc, ← Int.mul_assoc, show (-1 : Int) * -1 = 1 by decide, Int.one_mul, Int.one_mul] at h4
/-- Sums of powers satisfy the identities. -/
def pwS (R : Nat → Int) (m : Nat) : Nat → Int := fun k => sumN (fun i => R i ^ (k + 1)) m
theorem sgn_pw (R : Nat → Int) (m : Nat) : sgnS (pwS R m) = swS R m := by
  funext k
  unfold sgnS swS pwS
  by_cases h : k = 0
  · subst h
    rw [if_pos rfl, sumN_zero]
    intro i _
    rfl
  · rw [if_neg h, ← sumN_mul]
    exact sumN_congr fun i _ => by
      unfold sgS
      rw [if_neg h, show k - 1 + 1 = k by omega]
theorem newton_is (p : Int) (n : Nat) (R : Nat → Int) (m : Nat) : IsNewt p n (elS R m) (pwS R m) := by
  unfold IsNewt
  rw [sgn_pw]
  exact EqN.of_eq (newton R m)
end Go.Proofs.YtmgggdibbhameabDoor
namespace Go.Proofs.YtmgggdibbhameabDoor
def SerOk (f : Int) (l : List Int) : Prop := (0 ≤ f ∧ f ≤ 8) ∧ (1 ≤ l.length ∧ l.length ≤ 64) ∧ ∀ j, j < l.length → 0 ≤ lf l j ∧ lf l j < P f
open Classical in
noncomputable def mSeriesOk (f : Int) (l : List Int) : Bool := decide (SerOk f l)
theorem sok_iff {f : Int} {l : List Int} : mSeriesOk f l = true ↔ SerOk f l := by unfold mSeriesOk; simp
theorem sok_not {f : Int} {l : List Int} : mSeriesOk f l = false ↔ ¬ SerOk f l := by unfold mSeriesOk; simp
theorem SerOk.all {f : Int} {l : List Int} (h : SerOk f l) (j : Nat) : 0 ≤ lf l j ∧ lf l j < P f := by
  have hp := P_bd h.1.1 h.1.2
  by_cases hj : j < l.length
  · exact h.2.2 j hj
  · rw [lf_out l (by omega)]; omega
/-- A list of n elements. -/
def Ser (f : Int) (n : Nat) (l : List Int) : Prop := l.length = n ∧ ∀ j, 0 ≤ lf l j ∧ lf l j < P f
theorem SerOk.ser {f : Int} {l : List Int} (h : SerOk f l) : Ser f l.length l := ⟨rfl, h.all⟩
theorem ser_eq {f : Int} {n : Nat} {l m : List Int} (hl : Ser f n l) (hm : Ser f n m) (h : EqN (P f) n (lf l) (lf m)) : l = m := by
  refine list_ext (by rw [hl.1, hm.1]) fun j hj => ?_
  have := h j (by rw [← hl.1]; exact hj)
  rwa [Int.emod_eq_of_lt (hl.2 j).1 (hl.2 j).2, Int.emod_eq_of_lt (hm.2 j).1 (hm.2 j).2] at this
/-- The first n of F, as elements. -/
def elL (f : Int) (n : Nat) (F : Nat → Int) : List Int := tab n fun i => RS (F i) (P f)
theorem elL_len (f : Int) (n : Nat) (F : Nat → Int) : (elL f n F).length = n := tab_len _ _
theorem lf_elL (f : Int) (n : Nat) (F : Nat → Int) (j : Nat) : lf (elL f n F) j = if j < n then RS (F j) (P f) else 0 := lf_tab _ _ _
theorem elL_ser {f : Int} (h0 : 0 ≤ f) (h8 : f ≤ 8) (n : Nat) (F : Nat → Int) : Ser f n (elL f n F) := by
  have hp := P_bd h0 h8
  refine ⟨elL_len f n F, fun j => ?_⟩
  rw [lf_elL]
  split
  · exact RS_bd (by omega)
  · omega
theorem elL_eq {f : Int} (n : Nat) (F : Nat → Int) : EqN (P f) n (lf (elL f n F)) F := fun i hi => by
  rw [lf_elL, if_pos hi]
  unfold RS
  exact Int.emod_emod_of_dvd _ (Int.dvd_refl _)
theorem elL_of {f : Int} (h0 : 0 ≤ f) (h8 : f ≤ 8) {n : Nat} {F : Nat → Int} {l : List Int} (hl : Ser f n l) (h : EqN (P f) n (lf l) F) : elL f n F = l := ser_eq (elL_ser h0 h8 n F) hl ((elL_eq n F).trans h.symm)
open Classical in
noncomputable def theL (Q : List Int → Prop) : List Int := if h : ∃ l, Q l then Classical.choose h else []
theorem theL_eq {Q : List Int → Prop} {l : List Int} (hu : ∀ a b, Q a → Q b → a = b) (h : Q l) : theL Q = l := by
  have hex : ∃ l, Q l := ⟨l, h⟩
  unfold theL
  rw [dif_pos hex]
  exact hu _ _ (Classical.choose_spec hex) h
/-- The answers. -/
def FitOk (f : Int) (a b : List Int) : Prop := a.length = b.length ∧ SerOk f a ∧ SerOk f b
def ShortOk (f : Int) (a : List Int) : Prop := SerOk f a ∧ (a.length : Int) ≤ P f
def smulL (f : Int) (a b : List Int) : List Int := elL f a.length (mulS (lf a) (lf b))
def QInv (f : Int) (a l : List Int) : Prop := Ser f a.length l ∧ IsInv (P f) a.length (lf a) (lf l)
noncomputable def invL (f : Int) (a : List Int) : List Int := theL (QInv f a)
theorem invL_eq {f : Int} {a l : List Int} (h : QInv f a l) : invL f a = l := theL_eq (fun _ _ h1 h2 => ser_eq h1.1 h2.1 (h1.2.unique h2.2)) h
def sdiffL (f : Int) (a : List Int) : List Int := elL f a.length fun i => if i + 1 < a.length then ((i : Int) + 1) * lf a (i + 1) else 0
def ssumL (f : Int) (a : List Int) : List Int := elL f a.length fun i => if i = 0 then 0 else lf a (i - 1) * mPower f i (-1)
def QLog (f : Int) (a l : List Int) : Prop := Ser f a.length l ∧ lf l 0 = 0 ∧ IsLog (P f) a.length (lf l) (lf a)
noncomputable def logL (f : Int) (a : List Int) : List Int := theL (QLog f a)
theorem one_ne {f : Int} (h0 : 0 ≤ f) (h8 : f ≤ 8) : (1 : Int) % P f ≠ 0 := by rw [one_p h0 h8]; decide
theorem logL_eq {f : Int} {a l : List Int} (ha : ShortOk f a) (h1 : lf a 0 = 1) (h : QLog f a l) : logL f a = l := by
  have h0 := ha.1.1.1
  have h8 := ha.1.1.2
  exact theL_eq (fun _ _ p q => ser_eq p.1 q.1 (IsLog.log_unique h0 h8 ha.2 (by rw [h1]; exact one_ne h0 h8) p.2.2 q.2.2 (by rw [p.2.1, q.2.1]))) h
def QExp (f : Int) (a l : List Int) : Prop := Ser f a.length l ∧ lf l 0 = 1 ∧ IsLog (P f) a.length (lf a) (lf l)
noncomputable def expL (f : Int) (a : List Int) : List Int := theL (QExp f a)
theorem expL_eq {f : Int} {a l : List Int} (ha : ShortOk f a) (h : QExp f a l) : expL f a = l :=
  theL_eq (fun _ _ p q => ser_eq p.1 q.1 (IsLog.exp_unique ha.1.1.1 ha.1.1.2 ha.2 p.2.2 q.2.2 (by rw [p.2.1, q.2.1]))) h
noncomputable def spowL (f : Int) (a : List Int) (e : Int) : List Int := elL f a.length (zpS (lf a) (lf (invL f a)) e)
def QSqrt (f : Int) (a l : List Int) : Prop := Ser f a.length l ∧ lf l 0 = 1 ∧ EqN (P f) a.length (mulS (lf l) (lf l)) (lf a)
noncomputable def sqrtL (f : Int) (a : List Int) : List Int := theL (QSqrt f a)
theorem sqrtL_eq {f : Int} {a l : List Int} (ha : SerOk f a) (h : QSqrt f a l) : sqrtL f a = l :=
  theL_eq (fun _ _ p q => ser_eq p.1 q.1 (IsSqrt.unique ha.1.1 ha.1.2 ⟨by rw [p.2.1], p.2.2⟩ ⟨by rw [q.2.1], q.2.2⟩)) h
def intoL (f : Int) (a b : List Int) : List Int := elL f a.length (inS (lf a) (lf b) a.length)
/-- 1, and the list behind it. -/
def oneE (a : List Int) : Nat → Int := fun k => if k = 0 then 1 else lf a (k - 1)
def QNewt (f : Int) (a l : List Int) : Prop := Ser f a.length l ∧ IsNewt (P f) a.length (oneE a) (lf l)
noncomputable def newtL (f : Int) (a : List Int) : List Int := theL (QNewt f a)
theorem newtL_eq {f : Int} {a l : List Int} (ha : SerOk f a) (h : QNewt f a l) : newtL f a = l :=
  theL_eq (fun _ _ p q => ser_eq p.1 q.1 (IsNewt.unique ha.1.1 ha.1.2 (one_ne ha.1.1 ha.1.2) p.2 q.2)) h
open Classical in
noncomputable def mSeriesMul (f : Int) (a b : List Int) : List Int := if FitOk f a b then smulL f a b else []
def InvOk (f : Int) (a : List Int) : Prop := SerOk f a ∧ lf a 0 ≠ 0
def LogOk (f : Int) (a : List Int) : Prop := ShortOk f a ∧ lf a 0 = 1
open Classical in
noncomputable def mSeriesLog0 (f : Int) (a : List Int) : List Int := if LogOk f a then logL f a else []
open Classical in
noncomputable def mSeriesLog1 (f : Int) (a : List Int) : Bool := decide (LogOk f a)
def ExpOk (f : Int) (a : List Int) : Prop := ShortOk f a ∧ lf a 0 = 0
open Classical in
noncomputable def mSeriesExp0 (f : Int) (a : List Int) : List Int := if ExpOk f a then expL f a else []
open Classical in
noncomputable def mSeriesExp1 (f : Int) (a : List Int) : Bool := decide (ExpOk f a)
def SPowOk (f : Int) (a : List Int) (e : Int) : Prop := SerOk f a ∧ (-1000000 ≤ e ∧ e ≤ 1000000) ∧ (e < 0 → lf a 0 ≠ 0)
open Classical in
noncomputable def mSeriesPow0 (f : Int) (a : List Int) (e : Int) : List Int := if SPowOk f a e then spowL f a e else []
open Classical in
noncomputable def mSeriesPow1 (f : Int) (a : List Int) (e : Int) : Bool := decide (SPowOk f a e)
def SqrtOk (f : Int) (a : List Int) : Prop := SerOk f a ∧ lf a 0 = 1
open Classical in
noncomputable def mSeriesSqrt0 (f : Int) (a : List Int) : List Int := if SqrtOk f a then sqrtL f a else []
open Classical in
noncomputable def mSeriesSqrt1 (f : Int) (a : List Int) : Bool := decide (SqrtOk f a)
def IntoOk (f : Int) (a b : List Int) : Prop := FitOk f a b ∧ lf b 0 = 0
open Classical in
noncomputable def mSeriesInto0 (f : Int) (a b : List Int) : List Int := if IntoOk f a b then intoL f a b else []
open Classical in
noncomputable def mSeriesInto1 (f : Int) (a b : List Int) : Bool := decide (IntoOk f a b)
open Classical in
noncomputable def mNewton0 (f : Int) (a : List Int) : List Int := if SerOk f a then newtL f a else []
open Classical in
noncomputable def mNewton1 (f : Int) (a : List Int) : Bool := decide (SerOk f a)
end Go.Proofs.YtmgggdibbhameabDoor
namespace Go.Proofs.YtmgggdibbhameabDoor
theorem inv_mul {f : Int} (h0 : 0 ≤ f) (h8 : f ≤ 8) {c : Int} (hc : c % P f ≠ 0) : (mPower f c (-1) * c) % P f = 1 % P f := by
  have h2 := (inv_one h0 h8 (z := c) hc).1
  have h3 : (mPower f c (-1) * (c % P f)) % P f = 1 := h2
  rw [Int.mul_emod, Int.emod_emod_of_dvd c (Int.dvd_refl _), ← Int.mul_emod] at h3
  rw [h3, one_p h0 h8]
/-- O with one more value. -/
def more (O : Nat → Int) (k : Nat) (x : Int) : Nat → Int := fun j => if j < k then O j else x
theorem more_lo {O : Nat → Int} {k : Nat} {x : Int} {j : Nat} (h : j < k) : more O k x j = O j := if_pos h
theorem more_at (O : Nat → Int) (k : Nat) (x : Int) : more O k x k = x := if_neg (by omega)
/-- The sum of a product's coefficient but for its first term, so far. -/
def ipar (A O : Nat → Int) (k i : Nat) : Int := sumN (fun j => A (j + 1) * O (k - (j + 1))) i
theorem ipar_succ (A O : Nat → Int) (k i : Nat) : ipar A O k (i + 1) = ipar A O k i + A (i + 1) * O (k - (i + 1)) := rfl
theorem cv_ipar (A O : Nat → Int) (k : Nat) : cv k A O = A 0 * O k + ipar A O k k := by
  rw [cv_sum, sumN_first]
  rfl
theorem ipar_more (A O : Nat → Int) (k : Nat) (x : Int) : ∀ i, i ≤ k → ipar A (more O k x) k i = ipar A O k i := fun i hi => sumN_congr fun j hj => by rw [more_lo (by omega)]
theorem cv_more_lo (A O : Nat → Int) {k i : Nat} (x : Int) (h : i < k) : cv i A (more O k x) = cv i A O := cv_congr (fun _ _ => rfl) (fun j hj => more_lo (by omega))
/-- A step of the inverse. -/
theorem inv_more {f : Int} (h0 : 0 ≤ f) (h8 : f ≤ 8) {A O : Nat → Int} {k : Nat} (hA : A 0 % P f ≠ 0) (h : IsInv (P f) k A O) : IsInv (P f) (k + 1) A (more O k (RS (RS (oneS k - ipar A O k k) (P f) * mPower f (A 0) (-1)) (P f))) := by
  intro i hi
  by_cases e : i < k
  · show cv i A (more O k _) % P f = _
    rw [cv_more_lo A O _ e]
    exact h i e
  · obtain rfl : i = k := by omega
    show cv i A (more O i _) % P f = _
    rw [cv_ipar, more_at, ipar_more A O i _ i (Nat.le_refl _)]
    obtain ⟨V, hV⟩ : ∃ V, mPower f (A 0) (-1) = V := ⟨_, rfl⟩
    have hi1 := inv_mul h0 h8 hA
    rw [hV] at hi1 ⊢
    obtain ⟨S, hS⟩ : ∃ S, oneS i - ipar A O i i = S := ⟨_, rfl⟩
    have e1 : (A 0 * RS (RS S (P f) * V) (P f)) % P f = S % P f := by
      have e2 : (A 0 * RS (RS S (P f) * V) (P f)) % P f = (A 0 * (S * V)) % P f := emod_mul_congr rfl (by
        unfold RS
        rw [Int.emod_emod_of_dvd _ (Int.dvd_refl _)]
        exact emod_mul_congr (Int.emod_emod_of_dvd _ (Int.dvd_refl _)) rfl)
      have e3 : A 0 * (S * V) = S * (V * A 0) := by rw [Int.mul_comm, Int.mul_assoc]
      rw [e2, e3, Int.mul_emod, hi1, ← Int.mul_emod, Int.mul_one]
    rw [hS]
    have e4 : (A 0 * RS (RS S (P f) * V) (P f) + ipar A O i i) % P f = (S + ipar A O i i) % P f := emod_add_congr e1 rfl
    rw [e4, ← hS]
    congr 1
    omega
theorem rs_sub (X Y p : Int) : RS (RS X p - RS Y p) p = RS (X - Y) p := by
  unfold RS
  exact (Int.sub_emod X Y p).symm
theorem ipar_rs {A O : Nat → Int} {k i : Nat} {p d : Int} : RS (RS (d - ipar A O k i) p - RS (A (i + 1) * O (k - (i + 1))) p) p = RS (d - ipar A O k (i + 1)) p := by
  rw [rs_sub, ipar_succ]
  congr 1
  omega
/-- A step of the exponential. -/
theorem exp_more {f : Int} (h0 : 0 ≤ f) (h8 : f ≤ 8) {L O : Nat → Int} {k : Nat} (k0 : k ≠ 0) (hk : (k : Int) % P f ≠ 0) (h : IsLog (P f) k L O) : IsLog (P f) (k + 1) L (more O k (RS (RS (ipar (thS L) O k k) (P f) * mPower f (k : Int) (-1)) (P f))) := by
  intro i hi
  have tz : thS L 0 = 0 := by show ((0 : Nat) : Int) * L 0 = 0; simp
  by_cases e : i < k
  · show ((i : Int) * more O k _ i) % P f = cv i (thS L) (more O k _) % P f
    rw [cv_more_lo _ _ _ e, more_lo e]
    exact h i e
  · obtain rfl : i = k := by omega
    show ((i : Int) * more O i _ i) % P f = cv i (thS L) (more O i _) % P f
    rw [cv_ipar, tz, Int.zero_mul, Int.zero_add, more_at, ipar_more _ O i _ i (Nat.le_refl _)]
    obtain ⟨V, hV⟩ : ∃ V, mPower f (i : Int) (-1) = V := ⟨_, rfl⟩
    have hi1 := inv_mul h0 h8 hk
    rw [hV] at hi1 ⊢
    obtain ⟨S, hS⟩ : ∃ S, ipar (thS L) O i i = S := ⟨_, rfl⟩
    rw [hS]
    have e2 : ((i : Int) * RS (RS S (P f) * V) (P f)) % P f = ((i : Int) * (S * V)) % P f := emod_mul_congr rfl (by
      unfold RS
      rw [Int.emod_emod_of_dvd _ (Int.dvd_refl _)]
      exact emod_mul_congr (Int.emod_emod_of_dvd _ (Int.dvd_refl _)) rfl)
    have e3 : (i : Int) * (S * V) = S * (V * (i : Int)) := by rw [Int.mul_comm, Int.mul_assoc]
    rw [e2, e3, Int.mul_emod, hi1, ← Int.mul_emod, Int.mul_one]
theorem th_rs {A O : Nat → Int} {k i : Nat} {p : Int} : RS (RS (ipar (thS A) O k i) p + RS (((i + 1 : Nat) : Int) * RS (A (i + 1) * O (k - (i + 1))) p) p) p = RS (ipar (thS A) O k (i + 1)) p := by
  have e : RS (((i + 1 : Nat) : Int) * RS (A (i + 1) * O (k - (i + 1))) p) p = RS (thS A (i + 1) * O (k - (i + 1))) p := by
    unfold RS thS
    rw [Int.mul_assoc]
    exact emod_mul_congr rfl (Int.emod_emod_of_dvd _ (Int.dvd_refl _))
  rw [e]
  unfold RS
  rw [ipar_succ]
  exact (Int.add_emod _ _ _).symm
/-- A step of the square root: the sum but for its first and last terms. -/
def jpar (O : Nat → Int) (k i : Nat) : Int := sumN (fun j => O (j + 1) * O (k - (j + 1))) i
theorem jpar_succ (O : Nat → Int) (k i : Nat) : jpar O k (i + 1) = jpar O k i + O (i + 1) * O (k - (i + 1)) := rfl
theorem cv_jpar (O : Nat → Int) (k : Nat) : cv (k + 1) O O = O 0 * O (k + 1) + jpar O (k + 1) k + O (k + 1) * O 0 := by
  rw [cv_sum, sumN_first]
  have e : sumN (fun i => O (i + 1) * O (k + 1 - (i + 1))) (k + 1) = jpar O (k + 1) k + O (k + 1) * O (k + 1 - (k + 1)) := rfl
  rw [e, Nat.sub_self, ← Int.add_assoc]
  rfl
theorem jpar_more (O : Nat → Int) (k : Nat) (x : Int) : ∀ i, i < k → jpar (more O k x) k i = jpar O k i := fun i hi => sumN_congr fun j hj => by rw [more_lo (by omega), more_lo (by omega)]
theorem jpar_rs {O : Nat → Int} {k i : Nat} {p d : Int} : RS (RS (d - jpar O k i) p - RS (O (i + 1) * O (k - (i + 1))) p) p = RS (d - jpar O k (i + 1)) p := by
  rw [rs_sub, jpar_succ]
  congr 1
  omega
theorem sqrt_more {f : Int} (h0 : 0 ≤ f) (h8 : f ≤ 8) {A O : Nat → Int} {k : Nat} (ho : O 0 = 1) (h : EqN (P f) (k + 1) (mulS O O) A) : EqN (P f) (k + 2) (mulS (more O (k + 1) (RS (RS (A (k + 1) - jpar O (k + 1) k) (P f) * mPower f 2 (-1)) (P f))) (more O (k + 1) (RS (RS (A (k + 1) - jpar O (k + 1) k) (P f) * mPower f 2 (-1)) (P f)))) A := by
  intro i hi
  by_cases e : i < k + 1
  · have e2 : mulS (more O (k + 1) (RS (RS (A (k + 1) - jpar O (k + 1) k) (P f) * mPower f 2 (-1)) (P f))) (more O (k + 1) (RS (RS (A (k + 1) - jpar O (k + 1) k) (P f) * mPower f 2 (-1)) (P f))) i = mulS O O i := cv_congr (fun j hj => more_lo (by omega)) (fun j hj => more_lo (by omega))
    rw [e2]
    exact h i e
  · obtain rfl : i = k + 1 := by omega
    show cv (k + 1) (more O (k + 1) _) (more O (k + 1) _) % P f = _
    rw [cv_jpar, more_at, more_lo (show 0 < k + 1 by omega), jpar_more O (k + 1) _ k (by omega), ho, Int.one_mul, Int.mul_one]
    obtain ⟨V, hV⟩ : ∃ V, mPower f 2 (-1) = V := ⟨_, rfl⟩
    have hi1 := inv_mul h0 h8 (c := 2) (two_ne h0 h8)
    rw [hV] at hi1 ⊢
    obtain ⟨J, hJ⟩ : ∃ J, jpar O (k + 1) k = J := ⟨_, rfl⟩
    rw [hJ]
    obtain ⟨S, hS⟩ : ∃ S, A (k + 1) - J = S := ⟨_, rfl⟩
    rw [hS]
    obtain ⟨T, hT⟩ : ∃ T, RS (RS S (P f) * V) (P f) = T := ⟨_, rfl⟩
    have e1 : (2 * T) % P f = S % P f := by
      rw [← hT]
      have e2 : (2 * RS (RS S (P f) * V) (P f)) % P f = (2 * (S * V)) % P f := emod_mul_congr rfl (by
        unfold RS
        rw [Int.emod_emod_of_dvd _ (Int.dvd_refl _)]
        exact emod_mul_congr (Int.emod_emod_of_dvd _ (Int.dvd_refl _)) rfl)
      have e3 : 2 * (S * V) = S * (V * 2) := by rw [Int.mul_comm, Int.mul_assoc]
      rw [e2, e3, Int.mul_emod, hi1, ← Int.mul_emod, Int.mul_one]
    rw [hT, show T + J + T = 2 * T + J by omega, show A (k + 1) = S + J by omega]
    exact emod_add_congr e1 rfl
end Go.Proofs.YtmgggdibbhameabDoor
namespace Go.Proofs.YtmgggdibbhameabDoor
theorem tab_ser {f : Int} (hp : 0 < P f) {n : Nat} {O : Nat → Int} (h : ∀ j, 0 ≤ O j ∧ O j < P f) : Ser f n (tab n O) := by
  refine ⟨tab_len _ _, fun j => ?_⟩
  rw [lf_tab]
  split
  · exact h j
  · omega
theorem tab_eq (p : Int) (n : Nat) (O : Nat → Int) : EqN p n (lf (tab n O)) O := fun i hi => by rw [lf_tab, if_pos hi]
theorem inv_tab {p : Int} {n : Nat} {A O : Nat → Int} (h : IsInv p n A O) : IsInv p n A (lf (tab n O)) := ((EqN.refl p n A).mul (tab_eq p n O)).trans h
theorem Ser.ok {f : Int} (hf : 0 ≤ f ∧ f ≤ 8) {n : Nat} {l : List Int} (h : Ser f n l) (n1 : 1 ≤ n) (n2 : n ≤ 64) : SerOk f l := ⟨hf, by rw [h.1]; exact ⟨n1, n2⟩, fun j _ => h.2 j⟩
/-- The logarithm as the specification reckons it. -/
theorem log_of {f : Int} {a V : List Int} (ha : ShortOk f a) (hV : QInv f a V) : QLog f a (ssumL f (smulL f (sdiffL f a) V)) := by
  have h0 := ha.1.1.1
  have h8 := ha.1.1.2
  have n1 := ha.1.2.1
  have ld : (sdiffL f a).length = a.length := elL_len _ _ _
  have lm : (smulL f (sdiffL f a) V).length = a.length := (elL_len _ _ _).trans ld
  have ls : (ssumL f (smulL f (sdiffL f a) V)).length = a.length := (elL_len _ _ _).trans lm
  have hser : Ser f a.length (ssumL f (smulL f (sdiffL f a) V)) := by
    have := elL_ser h0 h8 (smulL f (sdiffL f a) V).length (fun i => if i = 0 then 0 else lf (smulL f (sdiffL f a) V) (i - 1) * mPower f i (-1))
    rw [lm] at this
    unfold ssumL
    rw [lm]
    exact this
  have hL : EqN (P f) a.length (lf (ssumL f (smulL f (sdiffL f a) V))) (fun i => if i = 0 then 0 else lf (smulL f (sdiffL f a) V) (i - 1) * mPower f i (-1)) := by
    unfold ssumL
    rw [lm]
    exact elL_eq _ _
  have hM : EqN (P f) a.length (lf (smulL f (sdiffL f a) V)) (mulS (lf (sdiffL f a)) (lf V)) := by
    have := elL_eq (f := f) (sdiffL f a).length (mulS (lf (sdiffL f a)) (lf V))
    rw [ld] at this
    unfold smulL
    rw [ld]
    exact this
  have hD : EqN (P f) a.length (lf (sdiffL f a)) (fun i => if i + 1 < a.length then ((i : Int) + 1) * lf a (i + 1) else 0) := elL_eq _ _
  refine ⟨hser, ?_, IsLog.of_inv hV.2 fun i hi => ?_⟩
  · have h1 := hL 0 (by omega)
    have h2 := hser.2 0
    rw [Int.emod_eq_of_lt h2.1 h2.2] at h1
    rw [h1]
    show (0 : Int) % P f = 0
    simp
  · by_cases hi0 : i = 0
    · subst hi0
      show (((0 : Nat) : Int) * _) % P f = (((0 : Nat) : Int) * lf a 0 * lf V 0) % P f
      simp
    · obtain ⟨k, rfl⟩ : ∃ k, i = k + 1 := ⟨i - 1, by omega⟩
      have e1 : cv (k + 1) (thS (lf a)) (lf V) = cv k (tl (thS (lf a))) (lf V) := by
        rw [cv_head]
        show ((0 : Nat) : Int) * lf a 0 * _ + _ = _
        simp
      show (((k + 1 : Nat) : Int) * lf (ssumL f (smulL f (sdiffL f a) V)) (k + 1)) % P f = cv (k + 1) (thS (lf a)) (lf V) % P f
      rw [e1]
      have hk := place_ne (f := f) ha.2 (show k + 1 ≠ 0 by omega) hi
      have hi1 := inv_mul h0 h8 hk
      have e2 := hL (k + 1) hi
      have e3 : (((k + 1 : Nat) : Int) * lf (ssumL f (smulL f (sdiffL f a) V)) (k + 1)) % P f = lf (smulL f (sdiffL f a) V) k % P f := by
        have e4 : (((k + 1 : Nat) : Int) * lf (ssumL f (smulL f (sdiffL f a) V)) (k + 1)) % P f = (((k + 1 : Nat) : Int) * (lf (smulL f (sdiffL f a) V) k * mPower f ((k + 1 : Nat) : Int) (-1))) % P f := emod_mul_congr rfl e2
        have e5 : ((k + 1 : Nat) : Int) * (lf (smulL f (sdiffL f a) V) k * mPower f ((k + 1 : Nat) : Int) (-1)) = lf (smulL f (sdiffL f a) V) k * (mPower f ((k + 1 : Nat) : Int) (-1) * ((k + 1 : Nat) : Int)) := by rw [Int.mul_comm, Int.mul_assoc]
        rw [e4, e5, Int.mul_emod, hi1, ← Int.mul_emod, Int.mul_one]
      rw [e3, hM k (by omega)]
      show cv k (lf (sdiffL f a)) (lf V) % P f = _
      rw [cv_sum, cv_sum]
      exact sumN_mod fun j hj => emod_mul_congr (by
        rw [hD j (by omega)]
        show (if j + 1 < a.length then ((j : Int) + 1) * lf a (j + 1) else 0) % P f = _
        rw [if_pos (by omega)]
        rfl) rfl
end Go.Proofs.YtmgggdibbhameabDoor
namespace Go.Proofs.YtmgggdibbhameabDoor
theorem moreN_bd {p : Int} {O : Nat → Int} {k : Nat} {x : Int} (h : ∀ j, 0 ≤ O j ∧ O j < p) (hx : 0 ≤ x ∧ x < p) (j : Nat) : 0 ≤ more O k x j ∧ more O k x j < p := by
  unfold more
  split
  · exact h j
  · exact hx
theorem inv_exists {f : Int} (h0 : 0 ≤ f) (h8 : f ≤ 8) {A : Nat → Int} (hA : A 0 % P f ≠ 0) : ∀ n : Nat, ∃ O : Nat → Int, (∀ j, 0 ≤ O j ∧ O j < P f) ∧ IsInv (P f) n A O
  | 0 => ⟨fun _ => 0, fun _ => by have := P_bd h0 h8; show (0 : Int) ≤ 0 ∧ (0 : Int) < P f; omega, fun i hi => by omega⟩
  | n + 1 => by
    have hp := P_bd h0 h8
    obtain ⟨O, hO, h⟩ := inv_exists h0 h8 hA n
    exact ⟨_, moreN_bd hO (RS_bd (by omega)), inv_more h0 h8 hA h⟩
theorem nz_mod {f : Int} {a : List Int} (h : SerOk f a) (hz : lf a 0 ≠ 0) : lf a 0 % P f ≠ 0 := by
  rw [Int.emod_eq_of_lt (h.all 0).1 (h.all 0).2]
  exact hz
theorem invL_is {f : Int} {a : List Int} (h : SerOk f a) (hz : lf a 0 ≠ 0) : QInv f a (invL f a) := by
  have hp := P_bd h.1.1 h.1.2
  obtain ⟨O, hO, hi⟩ := inv_exists h.1.1 h.1.2 (nz_mod h hz) a.length
  have hq : QInv f a (tab a.length O) := ⟨tab_ser (by omega) hO, inv_tab hi⟩
  rw [invL_eq hq]
  exact hq
theorem logL_is {f : Int} {a : List Int} (h : ShortOk f a) (h1 : lf a 0 = 1) : QLog f a (logL f a) := by
  have hq := log_of h (invL_is h.1 (by rw [h1]; decide))
  rw [logL_eq h h1 hq]
  exact hq
theorem expN_exists {f : Int} (h0 : 0 ≤ f) (h8 : f ≤ 8) (L : Nat → Int) (n : Nat) (hn : (n : Int) ≤ P f) : ∀ k : Nat, k + 1 ≤ n → ∃ O : Nat → Int, (∀ j, 0 ≤ O j ∧ O j < P f) ∧ IsLog (P f) (k + 1) L O ∧ O 0 = 1
  | 0, _ => by
    have hp := P_bd h0 h8
    refine ⟨oneS, fun j => ?_, fun i hi => ?_, rfl⟩
    · show 0 ≤ (if j = 0 then (1 : Int) else 0) ∧ (if j = 0 then (1 : Int) else 0) < P f
      split <;> omega
    · obtain rfl : i = 0 := by omega
      show (((0 : Nat) : Int) * oneS 0) % P f = cv 0 (thS L) oneS % P f
      rw [cv_ipar]
      show (((0 : Nat) : Int) * oneS 0) % P f = (((0 : Nat) : Int) * L 0 * oneS 0 + 0) % P f
      simp
  | k + 1, hk => by
    have hp := P_bd h0 h8
    obtain ⟨O, hO, h, hz⟩ := expN_exists h0 h8 L n hn k (by omega)
    exact ⟨_, moreN_bd hO (RS_bd (by omega)), exp_more h0 h8 (by omega) (place_ne hn (by omega) (by omega)) h, by rw [more_lo (by omega)]; exact hz⟩
theorem log_tabN {p : Int} {n : Nat} {A O : Nat → Int} (h : IsLog p n A O) : IsLog p n A (lf (tab n O)) := by
  intro i hi
  have e : cv i (thS A) (lf (tab n O)) = cv i (thS A) O := cv_congr (fun _ _ => rfl) (fun j hj => by rw [lf_tab, if_pos (by omega)])
  show ((i : Int) * lf (tab n O) i) % p = cv i (thS A) (lf (tab n O)) % p
  rw [e, lf_tab, if_pos hi]
  exact h i hi
theorem expL_is {f : Int} {a : List Int} (h : ShortOk f a) : QExp f a (expL f a) := by
  have hp := P_bd h.1.1.1 h.1.1.2
  have n1 := h.1.2.1
  obtain ⟨O, hO, hi, hz⟩ := expN_exists h.1.1.1 h.1.1.2 (lf a) a.length h.2 (a.length - 1) (by omega)
  rw [show a.length - 1 + 1 = a.length by omega] at hi
  have hq : QExp f a (tab a.length O) := ⟨tab_ser (by omega) hO, by rw [lf_tab, if_pos (by omega)]; exact hz, log_tabN hi⟩
  rw [expL_eq h hq]
  exact hq
theorem Ser.short {f : Int} {a x : List Int} (h : ShortOk f a) (hx : Ser f a.length x) : ShortOk f x := ⟨hx.ok h.1.1 h.1.2.1.1 h.1.2.1.2, by rw [hx.1]; exact h.2⟩
/-- The exponential of a logarithm. -/
theorem exp_log {f : Int} {a : List Int} (h : LogOk f a) : ExpOk f (logL f a) ∧ expL f (logL f a) = a := by
  have hq := logL_is h.1 h.2
  have hs := Ser.short h.1 hq.1
  refine ⟨⟨hs, hq.2.1⟩, expL_eq hs ⟨?_, h.2, ?_⟩⟩
  · rw [hq.1.1]; exact h.1.1.ser
  · rw [hq.1.1]; exact hq.2.2
/-- The logarithm of an exponential. -/
theorem log_exp {f : Int} {a : List Int} (h : ExpOk f a) : LogOk f (expL f a) ∧ logL f (expL f a) = a := by
  have hq := expL_is h.1
  have hs := Ser.short h.1 hq.1
  refine ⟨⟨hs, hq.2.1⟩, logL_eq hs hq.2.1 ⟨?_, h.2, ?_⟩⟩
  · rw [hq.1.1]; exact h.1.1.ser
  · rw [hq.1.1]; exact hq.2.2
theorem smulN_eq {f : Int} {n : Nat} {O X : List Int} (hO : Ser f n O) : EqN (P f) n (lf (smulL f O X)) (mulS (lf O) (lf X)) := by
  have : EqN (P f) O.length (lf (smulL f O X)) (mulS (lf O) (lf X)) := elL_eq _ _
  rwa [hO.1] at this
theorem smulN_ser {f : Int} (h0 : 0 ≤ f) (h8 : f ≤ 8) {n : Nat} {O X : List Int} (hO : Ser f n O) : Ser f n (smulL f O X) := by
  have : Ser f O.length (smulL f O X) := elL_ser h0 h8 _ _
  rwa [hO.1] at this
theorem smul_first {f : Int} (h0 : 0 ≤ f) (h8 : f ≤ 8) {O X : List Int} (n1 : 0 < O.length) (ho : lf O 0 = 1) (hx : lf X 0 = 1) : lf (smulL f O X) 0 = 1 := by
  unfold smulL
  rw [lf_elL, if_pos n1]
  show RS (cv 0 (lf O) (lf X)) (P f) = 1
  rw [cv_ipar, ho, hx]
  show (1 * 1 + 0 : Int) % P f = 1
  exact one_p h0 h8
theorem IsLog.congr {p : Int} {n : Nat} {L M A B : Nat → Int} (h : IsLog p n L A) (hL : EqN p n M L) (hA : EqN p n B A) : IsLog p n M B := (hA.th.trans h).trans ((hL.th.mul hA).symm)
/-- The logarithm of a product. -/
theorem log_mul {f : Int} {a b : List Int} (ha : LogOk f a) (hb : LogOk f b) (hl : a.length = b.length) : LogOk f (smulL f a b) ∧ logL f (smulL f a b) = elL f a.length (addS (lf (logL f a)) (lf (logL f b))) := by
  have h0 := ha.1.1.1.1
  have h8 := ha.1.1.1.2
  have n1 := ha.1.1.2.1.1
  have hs := smulN_ser (X := b) h0 h8 ha.1.1.ser
  have hz := smul_first h0 h8 (show 0 < a.length by omega) ha.2 hb.2
  have hsh := Ser.short ha.1 hs
  have qa := logL_is ha.1 ha.2
  have qb := logL_is hb.1 hb.2
  refine ⟨⟨hsh, hz⟩, logL_eq hsh hz ⟨?_, ?_, ?_⟩⟩
  · rw [hs.1]; exact elL_ser h0 h8 _ _
  · rw [lf_elL, if_pos (by omega)]
    show (lf (logL f a) 0 + lf (logL f b) 0) % P f = 0
    rw [qa.2.1, qb.2.1]
    rfl
  · rw [hs.1]
    have qb2 : IsLog (P f) a.length (lf (logL f b)) (lf b) := by
      have := qb.2.2
      rwa [← hl] at this
    exact (qa.2.2.mul qb2).congr (elL_eq _ _) (smulN_eq ha.1.1.ser)
/-- The laws of exponents. -/
theorem pow_addL {f : Int} {a : List Int} (h : SerOk f a) (hz : lf a 0 ≠ 0) (d e : Int) : smulL f (spowL f a d) (spowL f a e) = spowL f a (d + e) := by
  have h0 := h.1.1
  have h8 := h.1.2
  have hq := invL_is h hz
  have s1 : Ser f a.length (spowL f a d) := elL_ser h0 h8 _ _
  refine (elL_of h0 h8 (smulN_ser h0 h8 s1) ?_).symm
  refine (smulN_eq s1).trans ?_
  exact ((elL_eq _ _).mul (elL_eq _ _)).trans (hq.2.zpow d e)
/-- The root of a square. -/
theorem sqrt_sq {f : Int} {b : List Int} (h : SerOk f b) (h1 : lf b 0 = 1) : SqrtOk f (smulL f b b) ∧ sqrtL f (smulL f b b) = b := by
  have h0 := h.1.1
  have h8 := h.1.2
  have n1 := h.2.1
  have hs := smulN_ser (X := b) h0 h8 h.ser
  have hok := hs.ok h.1 n1.1 n1.2
  refine ⟨⟨hok, smul_first h0 h8 (by omega) h1 h1⟩, sqrtL_eq hok ⟨?_, h1, ?_⟩⟩
  · rw [hs.1]; exact h.ser
  · rw [hs.1]; exact (smulN_eq h.ser).symm
/-- A series put into a product. -/
theorem into_mul {f : Int} {a c x : List Int} (ha : IntoOk f a x) (hc : IntoOk f c x) : smulL f (intoL f a x) (intoL f c x) = intoL f (smulL f a c) x := by
  have h0 := ha.1.2.1.1.1
  have h8 := ha.1.2.1.1.2
  have hl : c.length = a.length := by have := ha.1.1; have := hc.1.1; omega
  have s1 : Ser f a.length (intoL f a x) := elL_ser h0 h8 _ _
  have hs := smulN_ser (X := c) h0 h8 ha.1.2.1.ser
  have e : intoL f (smulL f a c) x = elL f a.length (inS (lf (smulL f a c)) (lf x) a.length) := by
    unfold intoL
    rw [hs.1]
  rw [e]
  refine (elL_of h0 h8 (smulN_ser h0 h8 s1) ?_).symm
  refine (smulN_eq s1).trans ?_
  have e1 : EqN (P f) a.length (lf (intoL f a x)) (inS (lf a) (lf x) a.length) := elL_eq _ _
  have e2 : EqN (P f) a.length (lf (intoL f c x)) (inS (lf c) (lf x) a.length) := by
    have : EqN (P f) c.length (lf (intoL f c x)) (inS (lf c) (lf x) c.length) := elL_eq _ _
    rwa [hl] at this
  refine (e1.mul e2).trans ?_
  have e3 : EqN (P f) a.length (mulS (inS (lf a) (lf x) a.length) (inS (lf c) (lf x) a.length)) (inS (mulS (lf a) (lf c)) (lf x) a.length) := fun k hk => by
    show cv k _ _ % P f = _
    rw [inS_prod ha.2 hk]
  exact e3.trans (EqN.inS (smulN_eq ha.1.2.1.ser).symm (EqN.refl _ _ _))
end Go.Proofs.YtmgggdibbhameabDoor
namespace Go.Proofs.YtmgggdibbhameabDoor
theorem EqN.mulr {p : Int} {n : Nat} {A B : Nat → Int} (C : Nat → Int) (h : EqN p n A B) : EqN p n (mulS A C) (mulS B C) := h.mul (EqN.refl p n C)
theorem EqN.mull {p : Int} {n : Nat} {A B : Nat → Int} (C : Nat → Int) (h : EqN p n A B) : EqN p n (mulS C A) (mulS C B) := (EqN.refl p n C).mul h
/-- Two series that begin late: their product begins later. -/
theorem low_mul {p : Int} {m n : Nat} {D E : Nat → Int} (hD : ∀ i, i < m → D i % p = 0) (hE : ∀ i, i < m → E i % p = 0) (h2 : n ≤ 2 * m) : ∀ i, i < n → mulS D E i % p = 0 := fun i hi => by
  show cv i D E % p = 0
  rw [cv_sum]
  have h := sumN_mod (p := p) (f := fun j => D j * E (i - j)) (g := fun _ => 0) (n := i + 1) fun j hj => by
    by_cases e : j < m
    · show (D j * E (i - j)) % p = 0 % p
      rw [Int.mul_emod, hD j e]
      simp
    · show (D j * E (i - j)) % p = 0 % p
      rw [Int.mul_emod, hE (i - j) (by omega)]
      simp
  rw [h, sumN_zero fun _ _ => rfl]
  rfl
theorem low_mulr {p : Int} {m : Nat} {D E : Nat → Int} (hD : ∀ i, i < m → D i % p = 0) : ∀ i, i < m → mulS D E i % p = 0 := fun i hi => by
  show cv i D E % p = 0
  rw [cv_sum]
  have h := sumN_mod (p := p) (f := fun j => D j * E (i - j)) (g := fun _ => 0) (n := i + 1) fun j hj => by
    show (D j * E (i - j)) % p = 0 % p
    rw [Int.mul_emod, hD j (by omega)]
    simp
  rw [h, sumN_zero fun _ _ => rfl]
  rfl
/-- A and c times B. -/
def mixS (A B : Nat → Int) (c : Int) : Nat → Int := fun i => A i + c * B i
theorem mul_mixS (A B C : Nat → Int) (c : Int) : mulS A (mixS B C c) = mixS (mulS A B) (mulS A C) c := funext fun k => by
  show cv k A (mixS B C c) = cv k A B + c * cv k A C
  rw [cv_comm k A (mixS B C c), cv_comm k A B, cv_comm k A C]
  have e : mixS B C c = fun j => B j + (fun i => c * C i) j := rfl
  rw [e, cv_add_l, cv_smul_l]
theorem EqN.mix {p : Int} {n : Nat} {A A' B B' : Nat → Int} (c : Int) (h : EqN p n A A') (k : EqN p n B B') : EqN p n (mixS A B c) (mixS A' B' c) := fun i hi => emod_add_congr (h i hi) (emod_mul_congr rfl (k i hi))
/-- Without the first coefficient. -/
def dropS (A : Nat → Int) : Nat → Int := fun i => if i = 0 then 0 else A i
/-- The doubling step of the inverse. -/
theorem inv_dbl {p : Int} {m n : Nat} (m1 : 1 ≤ m) (h2 : n ≤ 2 * m) {A G D : Nat → Int} (h : IsInv p m A G) (hD : EqN p n D (dropS (mulS A G))) : IsInv p n A (mixS G (mulS G D) (p - 1)) := by
  by_cases n0 : n = 0
  · subst n0; exact fun i hi => by omega
  have lowD : ∀ i, i < m → i < n → D i % p = 0 := fun i hi hn => by
    rw [hD i hn]
    unfold dropS
    by_cases e : i = 0
    · rw [if_pos e]; rfl
    · rw [if_neg e, h i hi]
      show (if i = 0 then (1 : Int) else 0) % p = 0
      rw [if_neg e]; rfl
  have hAG : EqN p n (mulS A G) (addS oneS D) := fun i hi => by
    show mulS A G i % p = (oneS i + D i) % p
    by_cases e : i = 0
    · subst e
      have hd := hD 0 hi
      have hz : D 0 % p = 0 := by rw [hd]; rfl
      rw [h 0 (by omega), Int.add_emod, hz, Int.add_zero, Int.emod_emod_of_dvd _ (Int.dvd_refl _)]
    · have hd := hD i hi
      have : dropS (mulS A G) i = mulS A G i := if_neg e
      rw [this] at hd
      have ho : oneS i = 0 := if_neg e
      rw [ho, Int.zero_add, hd]
  unfold IsInv
  rw [mul_mixS, ← mul_assocS]
  refine (EqN.mix (p - 1) hAG (hAG.mulr D)).trans fun i hi => ?_
  have hDD : mulS D D i % p = 0 := by
    have hl : ∀ i, i < min m n → D i % p = 0 := fun i hi => lowD i (by omega) (by omega)
    by_cases hmn : m ≤ n
    · exact low_mul (m := m) (n := n) (fun i hi => lowD i hi (by omega)) (fun i hi => lowD i hi (by omega)) h2 i hi
    · exact low_mulr (m := n) (fun i hi => lowD i (by omega) hi) i hi
  rw [add_mulS, one_mul]
  show (oneS i + D i + (p - 1) * (D i + mulS D D i)) % p = oneS i % p
  have e : oneS i + D i + (p - 1) * (D i + mulS D D i) = oneS i + p * D i + (p - 1) * mulS D D i := by
    rw [Int.mul_add, Int.sub_mul, Int.one_mul]; omega
  rw [e, Int.add_emod, Int.mul_emod (p - 1), hDD, Int.mul_zero, Int.zero_emod, Int.add_zero, Int.emod_emod_of_dvd _ (Int.dvd_refl _), Int.add_mul_emod_self_left]
/-- The doubling step of the exponential. -/
theorem exp_dbl {f : Int} (h0 : 0 ≤ f) (h8 : f ≤ 8) {m n : Nat} (hmn : m ≤ n) (h2 : n ≤ 2 * m) (hn : (n : Int) ≤ P f) {A G L D : Nat → Int} (hG : IsLog (P f) m A G) (hL : IsLog (P f) n L G) (hG0 : G 0 % P f ≠ 0) (hA0 : A 0 % P f = 0) (hL0 : L 0 % P f = 0) (hD : EqN (P f) n D (mixS A L (P f - 1))) : IsLog (P f) n A (mixS G (mulS G D) 1) := by
  have hLm : EqN (P f) m A L := IsLog.log_unique h0 h8 (by omega) hG0 hG (fun i hi => hL i (by omega)) (by rw [hA0, hL0])
  have cancel : ∀ x y : Int, (x + (P f - 1) * y) % P f = (x - y) % P f := fun x y => by
    have e : x + (P f - 1) * y = x - y + P f * y := by rw [Int.sub_mul, Int.one_mul]; omega
    rw [e, Int.add_mul_emod_self_left]
  have lowD : ∀ i, i < m → D i % P f = 0 := fun i hi => by
    rw [hD i (by omega)]
    show (A i + (P f - 1) * L i) % P f = 0
    rw [cancel, ← Int.emod_eq_emod_iff_emod_sub_eq_zero]
    exact hLm i hi
  have lowT : ∀ i, i < m → thS D i % P f = 0 := fun i hi => by
    show ((i : Int) * D i) % P f = 0
    rw [Int.mul_emod, lowD i hi]; simp
  have hA : EqN (P f) n A (addS L D) := fun i hi => by
    have h1 : (L i + D i) % P f = (L i + (A i + (P f - 1) * L i)) % P f := emod_add_congr rfl (hD i hi)
    show A i % P f = (L i + D i) % P f
    have e : L i + (A i + (P f - 1) * L i) = A i + P f * L i := by rw [Int.sub_mul, Int.one_mul]; omega
    rw [h1, e, Int.add_mul_emod_self_left]
  have e1 : mixS G (mulS G D) 1 = addS G (mulS G D) := funext fun i => by
    show G i + 1 * _ = G i + _
    rw [Int.one_mul]
  unfold IsLog
  rw [e1, thS_add, thS_mul]
  -- what is wanted, with A parted
  have hw : EqN (P f) n (mulS (thS A) (addS G (mulS G D))) (mulS (addS (thS L) (thS D)) (addS G (mulS G D))) := by
    have := (hA.th).mulr (addS G (mulS G D))
    rwa [thS_add] at this
  refine EqN.trans ?_ hw.symm
  rw [add_mulS, mul_addS, mul_addS]
  have e2 : mulS (thS L) (mulS G D) = mulS (mulS (thS L) G) D := (mul_assocS _ _ _).symm
  have e3 : mulS (thS D) (mulS G D) = mulS (mulS (thS D) D) G := by rw [mul_commS G D, ← mul_assocS]
  rw [e2, e3, mul_commS (thS D) G]
  intro i hi
  have hz : mulS (mulS (thS D) D) G i % P f = 0 := low_mulr (m := n) (low_mul (m := m) (n := n) lowT lowD h2) i hi
  have hg := hL i hi
  have hgd := (EqN.mulr D hL) i hi
  show (thS G i + (mulS (thS G) D i + mulS G (thS D) i)) % P f = (mulS (thS L) G i + mulS (mulS (thS L) G) D i + (mulS G (thS D) i + mulS (mulS (thS D) D) G i)) % P f
  have e4 : thS G i + (mulS (thS G) D i + mulS G (thS D) i) = thS G i + mulS (thS G) D i + (mulS G (thS D) i + 0) := by omega
  rw [e4]
  exact emod_add_congr (emod_add_congr hg hgd) (emod_add_congr rfl (by rw [hz]; rfl))
/-- The doubling step of the square root. -/
theorem sqrt_dbl {f : Int} (h0 : 0 ≤ f) (h8 : f ≤ 8) {m n : Nat} (hmn : m ≤ n) (h2 : n ≤ 2 * m) {A G Q E : Nat → Int} {c : Int} (hc : (c * 2) % P f = 1 % P f) (hG : EqN (P f) m (mulS G G) A) (hG0 : G 0 % P f ≠ 0) (hQ : EqN (P f) n (mulS Q G) A) (hE : EqN (P f) n E (mixS Q G (P f - 1))) : EqN (P f) n (mulS (mixS G E c) (mixS G E c)) A := by
  have hGE : EqN (P f) n (mulS G E) (mixS (mulS Q G) (mulS G G) (P f - 1)) := by
    have := hE.mull G
    rwa [mul_mixS, mul_commS G Q] at this
  have lowE : ∀ i, i < m → E i % P f = 0 := by
    have h1 : EqN (P f) m (mulS G E) (mulS G fun _ => 0) := fun i hi => by
      have hz : mulS G (fun _ => 0) i = 0 := by
        show cv i G (fun _ => 0) = 0
        rw [cv_comm]
        exact cv_zero_l fun _ _ => rfl
      rw [hz, hGE i (by omega)]
      show (mulS Q G i + (P f - 1) * mulS G G i) % P f = 0 % P f
      have e : mulS Q G i + (P f - 1) * mulS G G i = mulS Q G i - mulS G G i + P f * mulS G G i := by rw [Int.sub_mul, Int.one_mul]; omega
      rw [e, Int.add_mul_emod_self_left]
      have : mulS Q G i % P f = mulS G G i % P f := (hQ i (by omega)).trans (hG i hi).symm
      rw [Int.emod_eq_emod_iff_emod_sub_eq_zero] at this
      rw [this]
      rfl
    intro i hi
    have := h1.cancel h0 h8 hG0 i hi
    rw [this]
    rfl
  rw [mul_mixS, mul_commS (mixS G E c) G, mul_commS (mixS G E c) E, mul_mixS, mul_mixS, mul_commS E G]
  intro i hi
  have hEE : mulS E E i % P f = 0 := low_mul (m := m) (n := n) lowE lowE h2 i hi
  show (mulS G G i + c * mulS G E i + c * (mulS G E i + c * mulS E E i)) % P f = A i % P f
  have e1 : mulS G G i + c * mulS G E i + c * (mulS G E i + c * mulS E E i) = mulS G G i + (c * 2) * mulS G E i + c * c * mulS E E i := by
    rw [Int.mul_add, Int.mul_assoc c 2, Int.two_mul, Int.mul_add, Int.mul_assoc c c]; omega
  rw [e1]
  have e2 : (mulS G G i + (c * 2) * mulS G E i + c * c * mulS E E i) % P f = (mulS G G i + 1 * (mulS Q G i + (P f - 1) * mulS G G i) + 0) % P f := by
    refine emod_add_congr (emod_add_congr rfl (emod_mul_congr hc (hGE i hi))) ?_
    rw [Int.mul_emod, hEE]; simp
  rw [e2]
  have e3 : mulS G G i + 1 * (mulS Q G i + (P f - 1) * mulS G G i) + 0 = mulS Q G i + P f * mulS G G i := by rw [Int.one_mul, Int.sub_mul, Int.one_mul]; omega
  rw [e3, Int.add_mul_emod_self_left]
  exact hQ i hi
/-- x^n as a polynomial. -/
def xnL (n : Nat) : List Int := tab (n + 1) fun j => if j = n then 1 else 0
theorem xnL_len (n : Nat) : (xnL n).length = n + 1 := tab_len _ _
theorem xnL_lo {n j : Nat} (h : j < n) : lf (xnL n) j = 0 := by unfold xnL; rw [lf_tab, if_pos (by omega), if_neg (by omega)]
/-- What is left modulo x^n are the first coefficients. -/
theorem rem_xn {f : Int} {n : Nat} {A : Nat → Int} {r : List Int} (h : IsRem f A (xnL n) r) : EqN (P f) n (lf r) A := by
  obtain ⟨_, _, C, _, hC⟩ := h
  intro i hi
  rw [hC i]
  have hz : cv i C (lf (xnL n)) = 0 := by
    rw [cv_comm]
    exact cv_zero_l fun j hj => xnL_lo (by omega)
  rw [hz, Int.zero_add]
theorem pol_xn {f : Int} (h0 : 0 ≤ f) (h8 : f ≤ 8) (n : Nat) : Pol f (xnL n) := by
  have hp := P_bd h0 h8
  have e : xnL n = cutL (n + 1) fun j => if j = n then 1 else 0 := by
    refine list_ext ?_ fun j hj => ?_
    · rw [xnL_len, cutL_len, cutN_full]
      exact .inr (by show (if n + 1 - 1 = n then (1 : Int) else 0) ≠ 0; rw [if_pos (by omega)]; decide)
    · unfold xnL
      rw [lf_tab, lf_cutL]
  rw [e]
  exact Pol.cut (by omega) fun _ _ => by split <;> omega
theorem powX_is {f : Int} (h0 : 0 ≤ f) (h8 : f ≤ 8) {l : List Int} (hl : Pol f l) (e n : Nat) (n1 : 1 ≤ n) : IsPow f l e (xnL n) (powL f l e (xnL n)) := by
  have hm := pol_xn h0 h8 n
  have hz : (xnL n).length ≠ 0 := by rw [xnL_len]; omega
  have h1 : PowAt f (xnL n) (lf l) e e (remL f [1] (xnL n)) (remL f l (xnL n)) := PowAt.first (by
    have := remL_is h0 h8 (a := [1]) ?_ hm hz
    · have e1 : lf [1] = oneS := by
        funext j
        cases j with
        | zero => rfl
        | succ j => simp [lf, oneS]
      rwa [e1] at this
    · have hp := P_bd h0 h8
      have e2 : cutL 1 (fun _ => (1 : Int)) = [1] := rfl
      rw [← e2]
      exact Pol.cut (by omega) fun _ _ => by omega) (remL_is h0 h8 hl hm hz)
  have key : ∀ (k : Nat) (r s : List Int), PowAt f (xnL n) (lf l) e k r s → ∃ r', IsPow f l e (xnL n) r' := by
    intro k
    induction k using Nat.strongRecOn with
    | ind k ih =>
      intro r s h
      by_cases k0 : k = 0
      · subst k0; exact ⟨r, h.last⟩
      · have hs := remL_is h0 h8 (pol_mulL h0 h8 s s) hm hz
        by_cases hk : k % 2 = 0
        · exact ih (k / 2) (by omega) _ _ (h.even hk hs)
        · exact ih (k / 2) (by omega) _ _ (h.odd (by omega) (remL_is h0 h8 (pol_mulL h0 h8 r s) hm hz) hs)
  obtain ⟨r, hr⟩ := key e _ _ h1
  rw [powL_eq h0 h8 hm hr]
  exact hr
theorem lf_cut_self (l : List Int) : lf (cutL l.length (lf l)) = lf l := funext fun j => by
  rw [lf_cutL]
  split
  · rfl
  · rw [lf_out l (by omega)]
/-- The power of a series by the power of a polynomial. -/
theorem pow_pad {f : Int} (h0 : 0 ≤ f) (h8 : f ≤ 8) {a : List Int} {n : Nat} (ha : Ser f n a) (n1 : 1 ≤ n) (e : Nat) : (powL f (cutL n (lf a)) e (xnL n)).length ≤ n ∧ padL (powL f (cutL n (lf a)) e (xnL n)) n = elL f n (powS (lf a) e) := by
  have hp := P_bd h0 h8
  have hl : Pol f (cutL n (lf a)) := Pol.cut (by omega) fun j _ => ha.2 j
  have h := powX_is h0 h8 hl e n n1
  have hlen : (powL f (cutL n (lf a)) e (xnL n)).length ≤ n := by have := h.2.1; rw [xnL_len] at this; omega
  refine ⟨hlen, ?_⟩
  have e1 : lf (cutL n (lf a)) = lf a := by have := lf_cut_self a; rwa [ha.1] at this
  have hr := rem_xn h
  rw [e1] at hr
  symm
  refine elL_of h0 h8 ⟨padL_len _ _, fun j => ?_⟩ (EqN.trans (fun i hi => by rw [lf_padL _ hlen]) hr)
  rw [lf_padL _ hlen]
  exact h.1.1 j
end Go.Proofs.YtmgggdibbhameabDoor
namespace Go.Proofs.YtmgggdibbhameabDoor
open Go.RowKit
theorem cpar_cv {A B : Nat → Int} {k n : Nat} (h : k < n) : cpar A B k n = cv k A B := by
  rw [cv_sum]
  unfold cpar
  rw [sumN_congr (f := fun i => A i * B (k - i)) (g := fun j => if j ≤ k then A j * B (k - j) else 0) (fun i hi => by simp [show i ≤ k by omega])]
  exact sumN_more (by omega) (fun i h1 h2 => by simp [show ¬ i ≤ k by omega])
theorem prw_cut (f : Int) (A B : Nat → Int) {i m k : Nat} (hk : k < i + m) : prw f A B i m k = RS (cpar A B k (i + 1)) (P f) := by
  unfold prw
  split
  · rfl
  · rename_i h
    rw [cpar_succ, if_neg (by omega), Int.add_zero]
set_option maxRecDepth 100000 in
set_option maxHeartbeats 3200000 in
theorem sprod_some (f : Int) (b off b2 off2 n cap cap2 : Nat) (A B : Nat → Int) (w : World) (ht : Tab w) (h0 : 0 ≤ f) (h8 : f ≤ 8) (hn : n ≤ 4096) (hcap : n ≤ cap2)
    (hA : ∀ j, 0 ≤ A j ∧ A j < P f) (hB : ∀ j, 0 ≤ B j ∧ B j < P f) (hlt : b < w.heap.size) (hlt2 : b2 < w.heap.size)
    (hc : ∀ j, j < n → w.cell? ⟨b, off + j, none⟩ = some (.int .i64 (A j))) (hc2 : ∀ j, j < n → w.cell? ⟨b2, off2 + j, none⟩ = some (.int .i64 (B j))) :
    Calls Tryd.prog 66 #[.int .i64 f, .slice (some ⟨b, off, none⟩) n cap, .slice (some ⟨b2, off2, none⟩) n cap2] w (OwnG w (elL f n (mulS A B))) := by
  have HC := Lib.hid hc
  have HC2 := Lib.hid hc2
  have HA := Lib.hid hA
  have HB := Lib.hid hB
  clear hc hc2 hA hB
  have hp := P_bd h0 h8
  have hmk := made_n n (by omega)
  have HG : Hid (∀ wr, Own wr w.heap.size n (fun j => RS (cpar A B j n) (P f)) → Below w.heap.size w wr → OwnG w (elL f n (mulS A B)) (.returned (.slice (some ⟨w.heap.size, 0, none⟩) n n)) wr) := Lib.hid fun wr ho hb => OwnG.of_own ho (elL_len _ _ _).symm (Nat.le_refl _) (fun j hj => by
    rw [lf_elL, if_pos hj, cpar_cv hj]; rfl) hb
  go_enter Tryd.func66, Tryd.ntmps66
  go_wp2_with fail
  clear hmk
  go_loopw [8, 9, 10, 11, 17] (fun _ _ _ _ i wr => ∃ k : Nat, i = .int .i64 k ∧ k ≤ n ∧ Own wr w.heap.size n (fun j => RS (cpar A B j k) (P f)) ∧ Below w.heap.size w wr) (fun _ _ _ _ i _ => n - (intOf i).toNat)
  case atStart =>
    refine ⟨0, rfl, Nat.zero_le _, ?_, (Below.refl _ _).alloc (Nat.le_refl _) _⟩
    exact (World.rowIs_made w (.int .i64 0) n 3).congr fun j _ => by simp [cpar, sumN, RS]
  case round =>
    obtain ⟨i, rfl, hi, ho, hb⟩ := hrel
    by_cases h1 : i < n
    · have d1 : wr.cell? ⟨b, off + i, none⟩ = some (.int .i64 (A i)) := (hb.cell (p := ⟨b, off + i, none⟩) hlt).trans (HC.out i h1)
      have bA := HA.out i
      have HO := Lib.hid (own_congr ho rfl (fun k _ => prw_zero f A B i k))
      obtain ⟨m, hm⟩ : ∃ m : Nat, (n : Int) - i = m := ⟨n - i, by omega⟩
      have hm0 : (0 : Int) ≤ (n : Int) - i := by omega
      have hm1 : (n : Int) - i ≤ cap2 := by omega
      clear ho
      go_wp2_with fail
      go_loopw [10, 11, 29] (fun _ _ i2 wr => ∃ j : Nat, i2 = .int .i64 j ∧ j ≤ m ∧ Own wr w.heap.size n (prw f A B i j) ∧ Below w.heap.size w wr) (fun _ _ i2 _ => m - (intOf i2).toNat)
      case atStart => exact ⟨0, rfl, Nat.zero_le _, HO.out, hb⟩
      case round =>
        clear HO d1 hb
        obtain ⟨j, rfl, hj, ho, hb⟩ := hrel
        by_cases h2 : j < m
        · have d2 : wr.cell? ⟨b2, off2 + j, none⟩ = some (.int .i64 (B j)) := (hb.cell (p := ⟨b2, off2 + j, none⟩) hlt2).trans (HC2.out j (by omega))
          have hij : i + j < n := by omega
          have c2 := World.rowIs.cell ho hij
          rw [prw_at] at c2
          have c3 := World.rowIs.frozen ho (i + j)
          have HT := Lib.hid (ht.below hb)
          have bB := HB.out j
          have pb := prod_bd h0 h8 bA.1 bA.2 bB.1 bB.2
          have pr := RS_bd (x := cpar A B (i + j) i) (m := P f) (by omega)
          have HS := Lib.hid (prw_set ho)
          have HE := Lib.hid (prw_new f A B i j)
          clear ho
          generalize RS (cpar A B (i + j) i) (P f) = X at *
          go_wp2_with fail
          refine (reduce_c f (X + A i * B j) wr HT.out h0 h8).mono ?_
          rintro e w' ⟨rfl, rfl⟩
          rw [HE.out]
          go_wp2
          go_roundw
          case rel => exact ⟨j + 1, by go_num, by omega, HS.out, hb.setCell (Nat.le_refl _) _⟩
          case measure => simp [intOf]; omega
        · have hd2 : decide (j < m) = false := by simpa using h2
          obtain rfl : j = m := by omega
          have HO := Lib.hid (own_congr ho rfl (fun k hk => prw_cut f A B (show k < i + j by omega)))
          clear ho
          go_wp2
          go_roundw
          case rel => exact ⟨i + 1, by go_num, by omega, HO.out, hb⟩
          case measure => simp [intOf]; omega
    · have hd : decide (i < n) = false := by simpa using h1
      obtain rfl : i = n := by omega
      have HO := Lib.hid ho
      clear ho
      go_wp2
      go_ret
      exact HG.out wr HO.out hb
theorem sprod_c (f : Int) (a a2 : Option Addr) (n cap cap2 : Nat) (A B : Nat → Int) (w : World) (ht : Tab w) (h0 : 0 ≤ f) (h8 : f ≤ 8) (n1 : 1 ≤ n) (hn : n ≤ 4096) (hcap : n ≤ cap2)
    (hA : ∀ j, 0 ≤ A j ∧ A j < P f) (hB : ∀ j, 0 ≤ B j ∧ B j < P f) (hs : Src w a n A) (hs2 : Src w a2 n B) :
    Calls Tryd.prog 66 #[.int .i64 f, .slice a n cap, .slice a2 n cap2] w (OwnG w (elL f n (mulS A B))) := by
  rcases hs with h | ⟨b, off, rfl, hlt, hc⟩
  · omega
  rcases hs2 with h | ⟨b2, off2, rfl, hlt2, hc2⟩
  · omega
  exact sprod_some f b off b2 off2 n cap cap2 A B w ht h0 h8 hn hcap hA hB hlt hlt2 hc hc2
set_option maxRecDepth 100000 in
set_option maxHeartbeats 1600000 in
theorem mixed_some (f c : Int) (b off b2 off2 n cap cap2 : Nat) (A B : Nat → Int) (w : World) (ht : Tab w) (h0 : 0 ≤ f) (h8 : f ≤ 8) (c0 : 0 ≤ c) (c1 : c < P f) (hn : n ≤ 4096)
    (hA : ∀ j, 0 ≤ A j ∧ A j < P f) (hB : ∀ j, 0 ≤ B j ∧ B j < P f) (hlt : b < w.heap.size) (hlt2 : b2 < w.heap.size)
    (hc : ∀ j, j < n → w.cell? ⟨b, off + j, none⟩ = some (.int .i64 (A j))) (hc2 : ∀ j, j < n → w.cell? ⟨b2, off2 + j, none⟩ = some (.int .i64 (B j))) :
    Calls Tryd.prog 74 #[.int .i64 f, .slice (some ⟨b, off, none⟩) n cap, .slice (some ⟨b2, off2, none⟩) n cap2, .int .i64 c] w (OwnG w (elL f n (mixS A B c))) := by
  have HC := Lib.hid hc
  have HC2 := Lib.hid hc2
  have HA := Lib.hid hA
  have HB := Lib.hid hB
  clear hc hc2 hA hB
  have hp := P_bd h0 h8
  have hmk := made_n n (by omega)
  have HG : Hid (∀ wr, Own wr w.heap.size n (fun j => if j < n then RS (mixS A B c j) (P f) else 0) → Below w.heap.size w wr → OwnG w (elL f n (mixS A B c)) (.returned (.slice (some ⟨w.heap.size, 0, none⟩) n n)) wr) := Lib.hid fun wr ho hb => OwnG.of_own ho (elL_len _ _ _).symm (Nat.le_refl _) (fun j hj => by
    rw [lf_elL]) hb
  go_enter Tryd.func74, Tryd.ntmps74
  go_wp2_with fail
  clear hmk
  go_loopw [10, 11, 17] (fun _ _ i wr => ∃ k : Nat, i = .int .i64 k ∧ k ≤ n ∧ Own wr w.heap.size n (fun j => if j < k then RS (mixS A B c j) (P f) else 0) ∧ Below w.heap.size w wr) (fun _ _ i _ => n - (intOf i).toNat)
  case atStart =>
    refine ⟨0, rfl, Nat.zero_le _, ?_, (Below.refl _ _).alloc (Nat.le_refl _) _⟩
    exact (World.rowIs_made w (.int .i64 0) n 3).congr fun j _ => by simp
  case round =>
    obtain ⟨i, rfl, hi, ho, hb⟩ := hrel
    by_cases h1 : i < n
    · have d1 : wr.cell? ⟨b, off + i, none⟩ = some (.int .i64 (A i)) := (hb.cell (p := ⟨b, off + i, none⟩) hlt).trans (HC.out i h1)
      have d2 : wr.cell? ⟨b2, off2 + i, none⟩ = some (.int .i64 (B i)) := (hb.cell (p := ⟨b2, off2 + i, none⟩) hlt2).trans (HC2.out i h1)
      have bA := HA.out i
      have bB := HB.out i
      have pb := prod_bd h0 h8 c0 c1 bB.1 bB.2
      have c3 := World.rowIs.frozen ho i
      have c4 := World.rowIs.cell ho h1
      have HT := Lib.hid (ht.below hb)
      have HS := Lib.hid (own_step (F := fun j => RS (mixS A B c j) (P f)) ho)
      have HE : Hid (RS (A i + c * B i) (P f) = RS (mixS A B c i) (P f)) := Lib.hid rfl
      clear ho
      go_wp2_with fail
      refine (reduce_c f (A i + c * B i) wr HT.out h0 h8).mono ?_
      rintro e w' ⟨rfl, rfl⟩
      rw [HE.out]
      go_wp2
      go_roundw
      case rel => exact ⟨i + 1, by go_num, by omega, HS.out, hb.setCell (Nat.le_refl _) _⟩
      case measure => simp [intOf]; omega
    · have hd : decide (i < n) = false := by simpa using h1
      obtain rfl : i = n := by omega
      have HO := Lib.hid ho
      clear ho
      go_wp2
      go_ret
      exact HG.out wr HO.out hb
theorem mixed_c (f c : Int) (a a2 : Option Addr) (n cap cap2 : Nat) (A B : Nat → Int) (w : World) (ht : Tab w) (h0 : 0 ≤ f) (h8 : f ≤ 8) (c0 : 0 ≤ c) (c1 : c < P f) (n1 : 1 ≤ n) (hn : n ≤ 4096)
    (hA : ∀ j, 0 ≤ A j ∧ A j < P f) (hB : ∀ j, 0 ≤ B j ∧ B j < P f) (hs : Src w a n A) (hs2 : Src w a2 n B) :
    Calls Tryd.prog 74 #[.int .i64 f, .slice a n cap, .slice a2 n cap2, .int .i64 c] w (OwnG w (elL f n (mixS A B c))) := by
  rcases hs with h | ⟨b, off, rfl, hlt, hc⟩
  · omega
  rcases hs2 with h | ⟨b2, off2, rfl, hlt2, hc2⟩
  · omega
  exact mixed_some f c b off b2 off2 n cap cap2 A B w ht h0 h8 c0 c1 hn hA hB hlt hlt2 hc hc2
/-- The inverse as the specification has it. -/
theorem inv_pw {f x : Int} (h0 : 0 ≤ f) (h8 : f ≤ 8) (x0 : 0 < x) (x1 : x < P f) : PW (P f) x (P f - 2) = mPower f x (-1) := by
  rw [inverse_inv h0 h8 x0 x1]
  unfold invF
  rw [if_neg]
  unfold RS
  rw [Int.emod_eq_of_lt (by omega) x1]
  omega
theorem inv_bd {f x : Int} (h0 : 0 ≤ f) (h8 : f ≤ 8) (x0 : 0 < x) (x1 : x < P f) : 0 ≤ mPower f x (-1) ∧ mPower f x (-1) < P f := by
  have := (inv_one h0 h8 (z := x) (by unfold RS; rw [Int.emod_eq_of_lt (by omega) x1]; omega)).2
  omega
theorem inverseM_c (f x : Int) (w : World) (ht : Tab w) (h0 : 0 ≤ f) (h8 : f ≤ 8) (x0 : 0 < x) (x1 : x < P f) : Calls Tryd.prog 76 #[.int .i64 f, .int .i64 x] w fun e w' => e = .returned (.int .i64 (mPower f x (-1))) ∧ w = w' := by
  have := inverse_c f x w ht h0 h8 (by omega) x1
  rwa [inv_pw h0 h8 x0 x1] at this
def isumS (f : Int) (A : Nat → Int) : Nat → Int := fun i => if i = 0 then 0 else A (i - 1) * mPower f i (-1)
set_option maxRecDepth 100000 in
set_option maxHeartbeats 3200000 in
theorem integral_some (f : Int) (b off n cap : Nat) (A : Nat → Int) (w : World) (ht : Tab w) (h0 : 0 ≤ f) (h8 : f ≤ 8) (n1 : 1 ≤ n) (hn : n ≤ 4096) (hnp : (n : Int) ≤ P f)
    (hA : ∀ j, 0 ≤ A j ∧ A j < P f) (hlt : b < w.heap.size) (hc : ∀ j, j < n → w.cell? ⟨b, off + j, none⟩ = some (.int .i64 (A j))) :
    Calls Tryd.prog 82 #[.int .i64 f, .slice (some ⟨b, off, none⟩) n cap] w (OwnG w (elL f n (isumS f A))) := by
  have HC := Lib.hid hc
  have HA := Lib.hid hA
  clear hc hA
  have hp := P_bd h0 h8
  have hmk := made_n n (by omega)
  have HG : Hid (∀ wr, Own wr w.heap.size n (fun j => if j < n then RS (isumS f A j) (P f) else 0) → Below w.heap.size w wr → OwnG w (elL f n (isumS f A)) (.returned (.slice (some ⟨w.heap.size, 0, none⟩) n n)) wr) := Lib.hid fun wr ho hb => OwnG.of_own ho (elL_len _ _ _).symm (Nat.le_refl _) (fun j hj => by
    rw [lf_elL]) hb
  go_enter Tryd.func82, Tryd.ntmps82
  go_wp2_with fail
  clear hmk
  go_loopw [6] (fun i wr => ∃ k : Nat, i = .int .i64 ((k + 1 : Nat) : Int) ∧ k + 1 ≤ n ∧ Own wr w.heap.size n (fun j => if j < k + 1 then RS (isumS f A j) (P f) else 0) ∧ Below w.heap.size w wr) (fun i _ => n - (intOf i).toNat)
  case atStart =>
    refine ⟨0, rfl, n1, ?_, (Below.refl _ _).alloc (Nat.le_refl _) _⟩
    exact (World.rowIs_made w (.int .i64 0) n 3).congr fun j _ => by
      by_cases e : j = 0
      · subst e; simp [isumS, RS]
      · have e2 : ¬ j < 0 + 1 := by omega
        simp [e2]
  case round =>
    obtain ⟨k, rfl, hk, ho, hb⟩ := hrel
    by_cases h1 : k + 1 < n
    · have d1 : wr.cell? ⟨b, off + k, none⟩ = some (.int .i64 (A k)) := (hb.cell (p := ⟨b, off + k, none⟩) hlt).trans (HC.out k (by omega))
      have hd1 : decide (((k + 1 : Nat) : Int) < n) = true := decide_eq_true (by omega)
      have hd2 : decide ((k : Int) + 1 < n) = true := decide_eq_true (by omega)
      have bA := HA.out k
      have bI := inv_bd (f := f) (x := (k : Int) + 1) h0 h8 (by omega) (by omega)
      have HTw : Hid (Tab wr.drew) := Lib.hid (Tab.keep (ht.below hb) (fun _ => rfl))
      have HIV := Lib.hid (inverseM_c f ((k : Int) + 1) wr.drew HTw.out h0 h8 (by omega) (by omega))
      have HE : Hid (RS (A k * mPower f ((k : Int) + 1) (-1)) (P f) = RS (isumS f A (k + 1)) (P f)) := Lib.hid rfl
      have ho1 : Own wr.drew w.heap.size n (fun j => if j < k + 1 then RS (isumS f A j) (P f) else 0) := ho
      have hb1 : Below w.heap.size w wr.drew := ⟨hb.os, hb.tape, hb.output, hb.size, hb.block⟩
      have HMU := Lib.hid (mul_c f (A k) (mPower f ((k : Int) + 1) (-1)) wr.drew HTw.out h0 h8 bA.1 bA.2 bI.1 bI.2)
      have c21 := World.rowIs.cell ho1 h1
      have c31 := World.rowIs.frozen ho1 (k + 1)
      have HS := Lib.hid (own_step (F := fun j => RS (isumS f A j) (P f)) ho1)
      have hw : IntKind.i64.wrap ((k : Int) + 1 - 1) = (k : Int) := by rw [Int.add_sub_cancel]; exact IntWalk.i64_in _ (by omega)
      have hw2 : IntKind.i64.wrap (k : Int) = (k : Int) := IntWalk.i64_in _ (by omega)
      have hi0 : (k : Int) < n := by omega
      have hi1 : (0 : Int) ≤ (k : Int) + 1 := by omega
      have hi2 : (k : Int) + 1 < n := by omega
      have hi3 : ((k : Int) + 1).toNat = k + 1 := by omega
      clear ho ho1
      generalize mPower f ((k : Int) + 1) (-1) = V at *
      go_wp2
      refine wp_region_still_tail 13 (by kernel_rfl) (by kernel_rfl) ?_
      simp only [List.take_succ_cons, List.take_zero, List.drop_succ_cons, List.drop_zero]
      still_step
      still_step
      still_step
      still_step
      still_step
      still_step
      still_step
      still_step
      still_step
      still_step
      still_call (HIV.out.mono fun _ _ h => ⟨h.1, h.2.symm⟩)
      still_call (HMU.out.mono fun _ _ h => ⟨h.1, h.2.symm⟩)
      still_step
      refine wpStill_nil ?_
      change wpList _ _ _ _ _ wr.drew
      rw [HE.out]
      clear d1 hw hw2 hi0 hi1 hi2 hi3 HIV HMU
      generalize wr.drew = W1 at *
      go_wp2
      go_roundw
      case rel => exact ⟨k + 1, by go_num, by omega, HS.out, hb1.setCell (Nat.le_refl _) _⟩
      case measure => simp [intOf]; omega
    · have hd : decide (((k + 1 : Nat) : Int) < n) = false := decide_eq_false (by omega)
      have hd2 : decide ((k : Int) + 1 < n) = false := decide_eq_false (by omega)
      obtain rfl : n = k + 1 := by omega
      have HO := Lib.hid ho
      clear ho
      go_wp2
      go_ret
      exact HG.out wr HO.out hb
theorem integral_c (f : Int) (a : Option Addr) (n cap : Nat) (A : Nat → Int) (w : World) (ht : Tab w) (h0 : 0 ≤ f) (h8 : f ≤ 8) (n1 : 1 ≤ n) (hn : n ≤ 4096) (hnp : (n : Int) ≤ P f)
    (hA : ∀ j, 0 ≤ A j ∧ A j < P f) (hs : Src w a n A) :
    Calls Tryd.prog 82 #[.int .i64 f, .slice a n cap] w (OwnG w (elL f n (isumS f A))) := by
  rcases hs with h | ⟨b, off, rfl, hlt, hc⟩
  · omega
  exact integral_some f b off n cap A w ht h0 h8 n1 hn hnp hA hlt hc
end Go.Proofs.YtmgggdibbhameabDoor
namespace Go.Proofs.YtmgggdibbhameabDoor
open Go.RowKit
theorem sdiff_pad {f : Int} {l : List Int} {m : Nat} (hm : l.length = m + 1) : (cutL m fun j => RS (((j : Int) + 1) * lf l (j + 1)) (P f)).length ≤ l.length ∧ padL (cutL m fun j => RS (((j : Int) + 1) * lf l (j + 1)) (P f)) l.length = sdiffL f l := by
  have hl : (cutL m fun j => RS (((j : Int) + 1) * lf l (j + 1)) (P f)).length ≤ l.length := by have := cutL_le m fun j => RS (((j : Int) + 1) * lf l (j + 1)) (P f); omega
  refine ⟨hl, list_ext (by unfold sdiffL; rw [padL_len, elL_len]) fun j hj => ?_⟩
  rw [padL_len] at hj
  unfold sdiffL
  rw [lf_padL _ hl, lf_cutL, lf_elL, if_pos hj]
  by_cases h : j < m
  · rw [if_pos h, if_pos (by omega)]
  · rw [if_neg h, if_neg (by omega)]; simp [RS]
theorem sderiv_c (f : Int) (a : Option Addr) (l : List Int) (cap : Nat) (w : World) (ht : Tab w) (h : SerOk f l) (hs : Src w a l.length (lf l)) :
    Calls Tryd.prog 83 #[.int .i64 f, .slice a l.length cap] w (OwnG w (sdiffL f l)) := by
  have n1 := h.2.1
  obtain ⟨m, hm⟩ : ∃ m, l.length = m + 1 := ⟨l.length - 1, by omega⟩
  have HP := Lib.hid (sdiff_pad (f := f) hm)
  have HD : Hid (Calls Tryd.prog 95 #[.int .i64 f, .slice a l.length cap] w (OwnG w (cutL m fun j => RS (((j : Int) + 1) * lf l (j + 1)) (P f)))) := Lib.hid (by
    rcases hs with hz | ⟨b, off, rfl, hlt, hc⟩
    · omega
    · rw [hm] at hc ⊢
      exact der_some f b off m cap (lf l) w ht h.1.1 h.1.2 (by omega) h.all hlt hc)
  clear hs h hm
  generalize (cutL m fun j => RS (((j : Int) + 1) * lf l (j + 1)) (P f)) = D at *
  go_enter Tryd.func83, Tryd.ntmps83
  go_wp2_with fail
  refine HD.out.mono ?_
  rintro e w1 ⟨g, rfl, hg, o1, b1⟩
  have HS := Lib.hid o1.src
  clear o1 HD
  go_wp2_with fail
  refine (padded_c (some ⟨g, 0, none⟩) D D.length l.length w1 HP.out.1 (by omega) HS.out).mono ?_
  rintro e w2 h2
  rw [HP.out.2] at h2
  have HR := Lib.hid (h2.up b1)
  obtain ⟨g2, rfl, _⟩ := h2
  clear HS HP
  go_wp2
  go_ret
  exact HR.out
def lenSl : Value → Nat
  | .slice _ n _ => n
  | _ => 0
theorem own_first (w : World) (x : Int) : Own (w.alloc (.cells #[.int .i64 x] 3)) w.heap.size 1 (lf [x]) := by
  refine ⟨#[.int .i64 x], by unfold World.alloc; simp, rfl, fun j hj => ?_⟩
  obtain rfl : j = 0 := by omega
  rfl
set_option maxRecDepth 100000 in
set_option maxHeartbeats 1600000 in
theorem grown_c (K : Nat) (hE : Enters Tryd.prog K) (p1 p2 : Option Addr) (x : Int) (n : Nat) (Q : List Int → Prop) (w : World) (n1 : 1 ≤ n) (hn : n ≤ 4096) (hq : Q [x])
    (hst : ∀ (W : World) (g m : Nat) (r : List Int), Below w.heap.size w W → w.heap.size ≤ g → 1 ≤ r.length → r.length ≤ m → m ≤ 2 * r.length → m ≤ n → Q r → Own W g m (lf r) →
      Calls Tryd.prog K #[.slice (some ⟨g, 0, none⟩) m m, .pointer p1, .pointer p2] W (fun e W' => ∃ r' : List Int, r'.length = m ∧ Q r' ∧ OwnG W r' e W')) :
    Calls Tryd.prog 72 #[.int .i64 x, .int .i64 n, .func (.func K) #[] #[.pointer p1, .pointer p2]] w (fun e W' => ∃ r : List Int, r.length = n ∧ Q r ∧ OwnG w r e W') := by
  have HST := Lib.hid hst
  have HQ1 := Lib.hid hq
  have HE := Lib.hid hE
  clear hst hq hE
  go_enter Tryd.func72, Tryd.ntmps72
  go_wp2_with fail
  go_loopw [7] (fun v wr => ∃ (g k : Nat) (r : List Int), v = .slice (some ⟨g, 0, none⟩) k k ∧ Hid (r.length = k) ∧ w.heap.size ≤ g ∧ Own wr g k (lf r) ∧ Hid (Q r) ∧ 1 ≤ k ∧ k ≤ n ∧ Below w.heap.size w wr) (fun v _ => n - lenSl v)
  case atStart => exact ⟨w.heap.size, 1, [x], rfl, Lib.hid rfl, Nat.le_refl _, own_first w x, HQ1, Nat.le_refl _, n1, (Below.refl _ _).alloc (Nat.le_refl _) _⟩
  case round =>
    obtain ⟨g, k, r, rfl, HK, hg, ho, HQ, k1, hk, hb⟩ := hrel
    by_cases h1 : k < n
    · have hd1 : decide ((k : Int) < (n : Int)) = true := decide_eq_true (by omega)
      have key : ∀ (m : Nat) (y : Int), y = m → k ≤ m → m ≤ 2 * k → m ≤ n → Calls Tryd.prog 89 #[.slice (some ⟨g, 0, none⟩) k k, .int .i64 y] wr (fun e W => ∃ g2, e = .returned (.slice (some ⟨g2, 0, none⟩) m m) ∧ w.heap.size ≤ g2 ∧ Own W g2 m (lf r) ∧ Below wr.heap.size wr W) := fun m y hy h1 h2 h3 => by
        have hs : Src wr (some ⟨g, 0, none⟩) r.length (lf r) := by rw [HK.out]; exact ho.src
        have := padded_c (some ⟨g, 0, none⟩) r k m wr (by rw [HK.out]; exact h1) (by omega) hs
        rw [HK.out] at this
        rw [hy]
        refine this.mono ?_
        rintro e W ⟨g2, rfl, hg2, o2, b2⟩
        rw [padL_len] at o2 ⊢
        exact ⟨g2, rfl, Nat.le_trans hb.size hg2, own_congr o2 rfl (fun j hj => lf_padL r (by rw [HK.out]; exact h1) j), b2⟩
      have HKEY := Lib.hid key
      have HST2 : Hid (∀ (m g2 : Nat) (W : World), k ≤ m → m ≤ 2 * k → m ≤ n → w.heap.size ≤ g2 → Own W g2 m (lf r) → Below w.heap.size w W → Calls Tryd.prog K #[.slice (some ⟨g2, 0, none⟩) m m, .pointer p1, .pointer p2] W (fun e W' => ∃ (g3 : Nat) (r' : List Int), e = .returned (.slice (some ⟨g3, 0, none⟩) m m) ∧ Hid (r'.length = m) ∧ w.heap.size ≤ g3 ∧ Hid (Own W' g3 m (lf r')) ∧ Hid (Q r') ∧ Below W.heap.size W W')) := Lib.hid fun m g2 W h1 h2 h3 h4 h5 h6 => by
        refine (HST.out W g2 m r h6 h4 (by rw [HK.out]; exact k1) (by rw [HK.out]; exact h1) (by rw [HK.out]; exact h2) h3 HQ.out h5).mono ?_
        rintro e W' ⟨r', hr', hq', g3, rfl, hg3, o3, b3⟩
        rw [hr'] at o3 ⊢
        exact ⟨g3, r', rfl, Lib.hid hr', Nat.le_trans h6.size hg3, Lib.hid o3, Lib.hid hq', b3⟩
      clear key ho
      by_cases h2 : 2 * k ≤ n
      · have hmin : (2 : Int) * k ≤ n := by omega
        go_wp2_with fail
        refine (HKEY.out (2 * k) _ (by omega) (by omega) (Nat.le_refl _) h2).mono ?_
        rintro e W ⟨g2, rfl, hg2, o2, b2⟩
        have HO2 := Lib.hid o2
        have b3 := below_up hb b2 hb.size
        clear o2 b2
        have hE := HE.out #[.slice (some ⟨g2, 0, none⟩) (2 * k) (2 * k), .pointer p1, .pointer p2] W
        go_wp2_with fail
        refine (HST2.out (2 * k) g2 W (by omega) (Nat.le_refl _) h2 hg2 HO2.out b3).mono ?_
        rintro e W2 ⟨g3, r', rfl, HR2, hg3, HO3, HQ3, b4⟩
        have b5 := below_up b3 b4 b3.size
        clear b3 b4
        go_wp2
        go_roundw
        case rel => exact ⟨g3, 2 * k, r', rfl, HR2, hg3, HO3.out, HQ3, by omega, h2, b5⟩
        case measure => simp [lenSl]; omega
      · have hmin : ¬ ((2 : Int) * k ≤ n) := by omega
        have hmin2 : (n : Int) < (2 : Int) * k := by omega
        go_wp2_with fail
        refine (HKEY.out n _ (by omega) (by omega) (by omega) (Nat.le_refl _)).mono ?_
        rintro e W ⟨g2, rfl, hg2, o2, b2⟩
        have HO2 := Lib.hid o2
        have b3 := below_up hb b2 hb.size
        clear o2 b2
        have hE := HE.out #[.slice (some ⟨g2, 0, none⟩) n n, .pointer p1, .pointer p2] W
        go_wp2_with fail
        refine (HST2.out n g2 W (by omega) (by omega) (Nat.le_refl _) hg2 HO2.out b3).mono ?_
        rintro e W2 ⟨g3, r', rfl, HR2, hg3, HO3, HQ3, b4⟩
        have b5 := below_up b3 b4 b3.size
        clear b3 b4
        go_wp2
        go_roundw
        case rel => exact ⟨g3, n, r', rfl, HR2, hg3, HO3.out, HQ3, by omega, Nat.le_refl _, b5⟩
        case measure => simp [lenSl]; omega
    · have hd1 : decide ((k : Int) < (n : Int)) = false := decide_eq_false (by omega)
      obtain rfl : k = n := by omega
      have HF : Hid (∃ r : List Int, r.length = k ∧ Q r ∧ OwnG w r (.returned (.slice (some ⟨g, 0, none⟩) k k)) wr) := Lib.hid ⟨r, HK.out, HQ.out, g, by rw [HK.out], hg, by rw [HK.out]; exact ho, hb⟩
      clear ho
      go_wp2
      go_ret
      exact HF.out
end Go.Proofs.YtmgggdibbhameabDoor
namespace Go.Proofs.YtmgggdibbhameabDoor
open Go.RowKit
theorem cell_lt {w : World} {b o : Nat} {v : Value} (h : w.cell? ⟨b, o, none⟩ = some v) : b < w.heap.size := block_lt_of_cell h
/-- What the two captured variables hold. -/
def BoxP (f : Int) (v : Value) (B1 B2 : Nat) (W : World) : Prop := W.cell? ⟨B1, 0, none⟩ = some (.int .i64 f) ∧ W.cell? ⟨B2, 0, none⟩ = some v
theorem BoxP.keep {f : Int} {v : Value} {B1 B2 : Nat} {W W' : World} (h : BoxP f v B1 B2 W) {N : Nat} (hb : Below N W W') (h1 : B1 < N) (h2 : B2 < N) : BoxP f v B1 B2 W' :=
  ⟨(hb.cell (p := ⟨B1, 0, none⟩) h1).trans h.1, (hb.cell (p := ⟨B2, 0, none⟩) h2).trans h.2⟩
theorem OwnG.as {w w' : World} {l : List Int} {e : Ending} {n : Nat} (h : OwnG w l e w') (hl : l.length = n) : ∃ g, e = .returned (.slice (some ⟨g, 0, none⟩) n n) ∧ w.heap.size ≤ g ∧ Own w' g n (lf l) ∧ Below w.heap.size w w' := by
  subst hl
  obtain ⟨g, h1, h2, h3, h4⟩ := h
  exact ⟨g, h1, h2, h3, h4⟩
theorem OwnG.mk' {w w' : World} {l : List Int} {n g : Nat} (hl : l.length = n) (hg : w.heap.size ≤ g) (ho : Own w' g n (lf l)) (hb : Below w.heap.size w w') : OwnG w l (.returned (.slice (some ⟨g, 0, none⟩) n n)) w' := by
  subst hl
  exact ⟨g, rfl, hg, ho, hb⟩
theorem Src.less {w : World} {a : Option Addr} {n m : Nat} {F : Nat → Int} (h : Src w a n F) (hm : m ≤ n) : Src w a m F := by
  rcases h with h | ⟨b, off, h1, h2, h3⟩
  · exact .inl (by omega)
  · exact .inr ⟨b, off, h1, h2, fun j hj => h3 j (by omega)⟩
theorem drop_set {w : World} {g m : Nat} {F : Nat → Int} (h : Own w g m F) : Own (w.setCell ⟨g, 0, none⟩ (.int .i64 0)) g m (dropS F) :=
  (World.rowIs.set h 0 (.int .i64 0)).congr fun j _ => by
    unfold dropS
    split <;> rfl
/-- The inverse so far. -/
def IQ (f : Int) (l r : List Int) : Prop := (∀ j, 0 ≤ lf r j ∧ lf r j < P f) ∧ IsInv (P f) r.length (lf l) (lf r)
noncomputable def invD (f : Int) (l r : List Int) (m : Nat) : List Int := elL f m (mulS (lf l) (lf r))
noncomputable def invE (f : Int) (l r : List Int) (m : Nat) : List Int := elL f m (mulS (lf r) (dropS (lf (invD f l r m))))
noncomputable def invR (f : Int) (l r : List Int) (m : Nat) : List Int := elL f m (mixS (lf r) (lf (invE f l r m)) (P f - 1))
theorem inv_step {f : Int} (h0 : 0 ≤ f) (h8 : f ≤ 8) {l r : List Int} {m : Nat} (r1 : 1 ≤ r.length) (hm : m ≤ 2 * r.length) (hq : IQ f l r) : IQ f l (invR f l r m) := by
  refine ⟨(elL_ser h0 h8 _ _).2, ?_⟩
  unfold invR
  rw [elL_len]
  have hD : EqN (P f) m (dropS (lf (invD f l r m))) (dropS (mulS (lf l) (lf r))) := fun i hi => by
    unfold dropS
    by_cases e : i = 0
    · rw [if_pos e, if_pos e]
    · rw [if_neg e, if_neg e]
      exact elL_eq m _ i hi
  have h := inv_dbl r1 hm hq.2 hD
  refine EqN.trans (EqN.mull _ ?_) h
  exact (elL_eq m _).trans ((EqN.refl _ _ _).mix _ (elL_eq m _))
set_option maxRecDepth 100000 in
set_option maxHeartbeats 3200000 in
theorem invStep_c (f : Int) (B1 B2 b off n cap g m : Nat) (l r : List Int) (W : World) (ht : Tab W) (h0 : 0 ≤ f) (h8 : f ≤ 8) (hk : BoxP f (.slice (some ⟨b, off, none⟩) n cap) B1 B2 W) (m1 : 1 ≤ m) (hmn : m ≤ n) (hn : n ≤ 4096) (hcap : n ≤ cap)
    (hs : Src W (some ⟨b, off, none⟩) n (lf l)) (hl : ∀ j, 0 ≤ lf l j ∧ lf l j < P f) (r1 : 1 ≤ r.length) (hm2 : m ≤ 2 * r.length) (hq : IQ f l r) (ho : Own W g m (lf r)) :
    Calls Tryd.prog 92 #[.slice (some ⟨g, 0, none⟩) m m, .pointer (some ⟨B1, 0, none⟩), .pointer (some ⟨B2, 0, none⟩)] W (fun e W' => ∃ r' : List Int, r'.length = m ∧ IQ f l r' ∧ OwnG W r' e W') := by
  have hp := P_bd h0 h8
  have HST := Lib.hid (inv_step h0 h8 r1 hm2 hq)
  have l1 := cell_lt hk.1
  have l2 := cell_lt hk.2
  have hcm : (m : Int) ≤ cap := by omega
  have P1 : Hid (∀ W1, Below W.heap.size W W1 → Calls Tryd.prog 66 #[.int .i64 f, .slice (some ⟨b, off, none⟩) m cap, .slice (some ⟨g, 0, none⟩) m m] W1 (fun e w' => ∃ g1, e = .returned (.slice (some ⟨g1, 0, none⟩) m m) ∧ W1.heap.size ≤ g1 ∧ Own w' g1 m (lf (invD f l r m)) ∧ Below W1.heap.size W1 w')) := Lib.hid fun W1 hb =>
    (sprod_c f _ _ m cap m (lf l) (lf r) W1 (ht.below hb) h0 h8 m1 (by omega) (Nat.le_refl _) hl hq.1 ((hs.less hmn).keep hb) (ho.src.keep hb)).mono fun _ _ h => h.as (elL_len _ _ _)
  have HDB : ∀ j, 0 ≤ dropS (lf (invD f l r m)) j ∧ dropS (lf (invD f l r m)) j < P f := fun j => by
    unfold dropS
    split
    · omega
    · exact (elL_ser h0 h8 _ _).2 j
  have P2 : Hid (∀ (g1 : Nat) W1, Below W.heap.size W W1 → Own W1 g1 m (dropS (lf (invD f l r m))) → Calls Tryd.prog 66 #[.int .i64 f, .slice (some ⟨g, 0, none⟩) m m, .slice (some ⟨g1, 0, none⟩) m m] W1 (fun e w' => ∃ g2, e = .returned (.slice (some ⟨g2, 0, none⟩) m m) ∧ W1.heap.size ≤ g2 ∧ Own w' g2 m (lf (invE f l r m)) ∧ Below W1.heap.size W1 w')) := Lib.hid fun g1 W1 hb o1 =>
    (sprod_c f _ _ m m m (lf r) _ W1 (ht.below hb) h0 h8 m1 (by omega) (Nat.le_refl _) hq.1 HDB (ho.src.keep hb) o1.src).mono fun _ _ h => h.as (elL_len _ _ _)
  have P3 : Hid (∀ (g2 : Nat) W1, Below W.heap.size W W1 → Own W1 g2 m (lf (invE f l r m)) → Calls Tryd.prog 74 #[.int .i64 f, .slice (some ⟨g, 0, none⟩) m m, .slice (some ⟨g2, 0, none⟩) m m, .int .i64 (P f - 1)] W1 (fun e w' => ∃ g3, e = .returned (.slice (some ⟨g3, 0, none⟩) m m) ∧ W1.heap.size ≤ g3 ∧ Own w' g3 m (lf (invR f l r m)) ∧ Below W1.heap.size W1 w')) := Lib.hid fun g2 W1 hb o2 =>
    (mixed_c f (P f - 1) _ _ m m m (lf r) _ W1 (ht.below hb) h0 h8 (by omega) (by omega) m1 (by omega) hq.1 (elL_ser h0 h8 _ _).2 (ho.src.keep hb) o2.src).mono fun _ _ h => h.as (elL_len _ _ _)
  have HPR : Hid (∀ W1, Below W.heap.size W W1 → Calls Tryd.prog 75 #[.int .i64 f] W1 fun e w' => e = .returned (.int .i64 (P f)) ∧ W1 = w') := Lib.hid fun W1 hb => prime_c f W1 (ht.below hb) h0 h8
  have HF : Hid (∀ (g3 : Nat) (W' : World), W.heap.size ≤ g3 → Own W' g3 m (lf (invR f l r m)) → Below W.heap.size W W' → ∃ r' : List Int, r'.length = m ∧ IQ f l r' ∧ OwnG W r' (.returned (.slice (some ⟨g3, 0, none⟩) m m)) W') := Lib.hid fun g3 W' hg3 o3 hb => ⟨_, elL_len _ _ _, HST.out, OwnG.mk' (elL_len _ _ _) hg3 o3 hb⟩
  have m0 : 0 < m := m1
  have m0' : (0 : Int) < m := by omega
  have q1 : IntKind.i64.wrap (P f - 1) = P f - 1 := IntWalk.i64_in _ (by omega)
  have b0 : Below W.heap.size W W.drew := ⟨rfl, rfl, rfl, Nat.le_refl _, fun _ _ => rfl⟩
  have k0 : BoxP f (.slice (some ⟨b, off, none⟩) n cap) B1 B2 W.drew := hk
  clear hs hl hq ho HST ht HDB hm2 r1
  generalize lf (invD f l r m) = D at *
  generalize lf (invE f l r m) = E at *
  generalize lf (invR f l r m) = R at *
  go_enter Tryd.func92, Tryd.ntmps92
  go_wp2_with fail
  go_region_held3 (fun W1 => W1.cell? ⟨B1, 0, none⟩ = some (.int .i64 f) ∧ W1.cell? ⟨B2, 0, none⟩ = some (.slice (some ⟨b, off, none⟩) n cap))
    (first | exact hk | exact k0 | exact k1 | go_keep)
    ((go_at_call 66; refine (P1.out _ b0).mono ?_; rintro e w1 ⟨g1, rfl, hg1, o1, b1⟩; have b2 := below_up b0 b1 b0.size; have k1 := k0.keep b1 l1 l2))
  have c1 := World.rowIs.cell o1 m0
  have f1 := World.rowIs.frozen o1 0
  have HO2 := Lib.hid (drop_set o1)
  have b3 := b2.setCell (p := ⟨g1, 0, none⟩) hg1 (.int .i64 0)
  have k2 := hk.keep b3 l1 l2
  clear o1 b1 b2 k1 P1
  go_wp2_with fail
  clear c1 f1
  generalize w1.setCell ⟨g1, 0, none⟩ (.int .i64 0) = W3 at *
  have b4 := b3.drew
  have k3 : BoxP f (.slice (some ⟨b, off, none⟩) n cap) B1 B2 W3.drew := k2
  have o3 : Own W3.drew g1 m (dropS D) := HO2.out
  go_region_held3 (fun W1 => W1.cell? ⟨B1, 0, none⟩ = some (.int .i64 f) ∧ W1.cell? ⟨B2, 0, none⟩ = some (.slice (some ⟨b, off, none⟩) n cap))
    (first | exact k2 | exact k3 | exact k4 | exact k5 | go_keep)
    (first
      | (go_at_call 66; refine (P2.out g1 _ b4 o3).mono ?_; rintro e w4 ⟨g2, rfl, hg2, o4, b5⟩; have b6 := below_up b4 b5 b4.size; have k4 := hk.keep b6 l1 l2)
      | (go_at_call 75; refine (HPR.out _ b6).mono ?_; rintro e w' ⟨rfl, rfl⟩)
      | (go_at_call 74; refine (P3.out g2 _ b6 o4).mono ?_; rintro e w5 ⟨g3, rfl, hg3, o5, b7⟩; have b8 := below_up b6 b7 b6.size; have k5 := hk.keep b8 l1 l2))
  have HR := Lib.hid (HF.out g3 _ (Nat.le_trans b6.size hg3) o5 b8)
  clear o3 o4 o5
  go_wp2
  go_ret
  exact HR.out
theorem box_new (f : Int) (v : Value) (w : World) (t1 t2 : TypeId) : BoxP f v w.heap.size (w.heap.size + 1) ((w.alloc (.cells #[.int .i64 f] t1)).alloc (.cells #[v] t2)) := by
  have e : (w.alloc (.cells #[.int .i64 f] t1)).heap.size = w.heap.size + 1 := by simp
  refine ⟨?_, ?_⟩
  · rw [World.cell?_alloc_lt (h := by rw [e]; show w.heap.size < _; omega), World.cell?_alloc_at _ _ _ _ rfl]; rfl
  · rw [World.cell?_alloc_at _ _ _ _ (by rw [e])]; rfl
/-- A list that is grown: from one coefficient on. -/
theorem inv_first {f : Int} (h0 : 0 ≤ f) (h8 : f ≤ 8) {l : List Int} (h : SerOk f l) (hz : lf l 0 ≠ 0) : IQ f l [mPower f (lf l 0) (-1)] := by
  have hp := P_bd h0 h8
  have ha := h.all 0
  have hb := inv_bd (f := f) (x := lf l 0) h0 h8 (by omega) ha.2
  refine ⟨fun j => ?_, fun i hi => ?_⟩
  · cases j with
    | zero => exact hb
    | succ j => show 0 ≤ (0 : Int) ∧ (0 : Int) < P f; omega
  · have hi' : i < 1 := hi
    obtain rfl : i = 0 := by omega
    show cv 0 (lf l) (lf [mPower f (lf l 0) (-1)]) % P f = 1 % P f
    rw [cv_sum]
    have e : sumN (fun i => lf l i * lf [mPower f (lf l 0) (-1)] (0 - i)) (0 + 1) = mPower f (lf l 0) (-1) * lf l 0 := by
      show 0 + lf l 0 * mPower f (lf l 0) (-1) = _
      rw [Int.zero_add, Int.mul_comm]
    rw [e]
    exact inv_mul h0 h8 (nz_mod h hz)
theorem IQ.inv {f : Int} {l r : List Int} (hr : r.length = l.length) (hq : IQ f l r) : r = invL f l := by
  have : QInv f l r := ⟨⟨hr, hq.1⟩, by have := hq.2; rwa [hr] at this⟩
  exact (invL_eq this).symm
set_option maxRecDepth 100000 in
set_option maxHeartbeats 3200000 in
theorem inverted_c (f : Int) (a : Option Addr) (l : List Int) (cap : Nat) (w : World) (ht : Tab w) (h : SerOk f l) (hz : lf l 0 ≠ 0) (hcap : l.length ≤ cap) (hs : Src w a l.length (lf l)) :
    Calls Tryd.prog 71 #[.int .i64 f, .slice a l.length cap] w (OwnG w (invL f l)) := by
  have h0 := h.1.1
  have h8 := h.1.2
  have n1 := h.2.1
  have ha := h.all 0
  obtain ⟨b, off, rfl, hlt, hc⟩ : ∃ b off, a = some ⟨b, off, none⟩ ∧ b < w.heap.size ∧ ∀ j, j < l.length → w.cell? ⟨b, off + j, none⟩ = some (.int .i64 (lf l j)) := by
    rcases hs with hq | hq
    · omega
    · exact hq
  have hs : Src w (some ⟨b, off, none⟩) l.length (lf l) := .inr ⟨b, off, rfl, hlt, hc⟩
  have c0 : w.cell? ⟨b, off, none⟩ = some (.int .i64 (lf l 0)) := by have := hc 0 (by omega); rwa [Nat.add_zero] at this
  have HGR : Hid (∀ W, Below w.heap.size w W → BoxP f (.slice (some ⟨b, off, none⟩) l.length cap) w.heap.size (w.heap.size + 1) W → Calls Tryd.prog 72 #[.int .i64 (mPower f (lf l 0) (-1)), .int .i64 l.length, .func (.func 92) #[] #[.pointer (some ⟨w.heap.size, 0, none⟩), .pointer (some ⟨w.heap.size + 1, 0, none⟩)]] W (OwnG W (invL f l))) := Lib.hid fun W hb hk => by
    have l2 := cell_lt hk.2
    refine (grown_c 92 (enters_of Tryd.func92 (by kernel_rfl) rfl) _ _ (mPower f (lf l 0) (-1)) l.length (IQ f l) W n1.1 (by omega) (inv_first h0 h8 h hz) fun W2 g m r hb2 hg r1 hrm hm2 hmn hq ho => ?_).mono ?_
    · have hb3 := below_up hb hb2 hb.size
      exact invStep_c f w.heap.size (w.heap.size + 1) b off l.length cap g m l r W2 (ht.below hb3) h0 h8 (hk.keep hb2 (by omega) l2) (by omega) hmn (by omega) hcap (hs.keep hb3) h.all r1 hm2 hq ho
    · rintro e W' ⟨r, hr, hq, ho⟩
      rwa [hq.inv hr] at ho
  have HIV : Hid (∀ W, Below w.heap.size w W → Calls Tryd.prog 76 #[.int .i64 f, .int .i64 (lf l 0)] W fun e w' => e = .returned (.int .i64 (mPower f (lf l 0) (-1))) ∧ W = w') := Lib.hid fun W hb => inverseM_c f _ W (ht.below hb) h0 h8 (by omega) ha.2
  have n0 : (0 : Int) < (l.length : Int) := by omega
  have n0' : 0 < l.length := by omega
  have BA : ∀ o1 o2, Below w.heap.size w ((w.alloc o1).alloc o2) := fun o1 o2 => ((Below.refl _ _).alloc (Nat.le_refl _) o1).alloc (by simp) o2
  have HOG : Hid (∀ e W W', Below w.heap.size w W → OwnG W (invL f l) e W' → OwnG w (invL f l) e W') := Lib.hid fun e W W' hb ho => ho.up hb
  clear h hz hs hc ht
  generalize mPower f (lf l 0) (-1) = V at *
  generalize lf l 0 = A0 at *
  generalize invL f l = R at *
  generalize l.length = n at *
  go_enter Tryd.func71, Tryd.ntmps71
  go_wp2_with fail
  have kb := box_new f (.slice (some ⟨b, off, none⟩) n cap) w 44 22
  have bb := BA (.cells #[.int .i64 f] 44) (.cells #[.slice (some ⟨b, off, none⟩) n cap] 22)
  generalize ((w.alloc (.cells #[.int .i64 f] 44)).alloc (.cells #[.slice (some ⟨b, off, none⟩) n cap] 22)) = W1 at *
  have bd := bb.drew
  have kd : BoxP f (.slice (some ⟨b, off, none⟩) n cap) w.heap.size (w.heap.size + 1) W1.drew := kb
  have cb : W1.cell? ⟨b, off, none⟩ = some (.int .i64 A0) := (bb.cell (p := ⟨b, off, none⟩) hlt).trans c0
  have cd : W1.drew.cell? ⟨b, off, none⟩ = some (.int .i64 A0) := cb
  clear BA c0
  go_region_held3 (fun W2 => W2.cell? ⟨w.heap.size, 0, none⟩ = some (.int .i64 f) ∧ W2.cell? ⟨w.heap.size + 1, 0, none⟩ = some (.slice (some ⟨b, off, none⟩) n cap) ∧ W2.cell? ⟨b, off, none⟩ = some (.int .i64 A0))
    (first | exact ⟨kb.1, kb.2, cb⟩ | exact ⟨kd.1, kd.2, cd⟩ | exact ⟨ke.1, ke.2, ce⟩ | go_keep)
    (first
      | (go_at_call 76; refine (HIV.out _ bd).mono ?_; rintro e w' ⟨rfl, rfl⟩)
      | (go_at_call 72; refine (HGR.out _ bd kd).mono ?_; intro e w4 h4; have HR := Lib.hid (HOG.out e _ w4 bd h4); obtain ⟨g4, rfl, _, _, b4⟩ := h4; have ke := kd.keep b4 (cell_lt kd.1) (cell_lt kd.2); have ce := (b4.cell (p := ⟨b, off, none⟩) (cell_lt cd)).trans cd))
  all_goals
    go_wp2
    go_ret
    exact HR.out
set_option maxRecDepth 100000 in
set_option maxHeartbeats 1600000 in
theorem logarithm_c (f : Int) (a : Option Addr) (l : List Int) (cap : Nat) (w : World) (ht : Tab w) (h : LogOk f l) (hcap : l.length ≤ cap) (hs : Src w a l.length (lf l)) :
    Calls Tryd.prog 59 #[.int .i64 f, .slice a l.length cap] w (OwnG w (logL f l)) := by
  have h0 := h.1.1.1.1
  have h8 := h.1.1.1.2
  have hp := P_bd h0 h8
  have n1 := h.1.1.2.1
  have hz : lf l 0 ≠ 0 := by rw [h.2]; decide
  have hq := invL_is h.1.1 hz
  have ld : (sdiffL f l).length = l.length := elL_len _ _ _
  have lm : (smulL f (sdiffL f l) (invL f l)).length = l.length := (elL_len _ _ _).trans ld
  have hsd : Ser f l.length (sdiffL f l) := elL_ser h0 h8 _ _
  have H1 : Hid (Calls Tryd.prog 83 #[.int .i64 f, .slice a l.length cap] w (fun e w' => ∃ g, e = .returned (.slice (some ⟨g, 0, none⟩) l.length l.length) ∧ w.heap.size ≤ g ∧ Own w' g l.length (lf (sdiffL f l)) ∧ Below w.heap.size w w')) := Lib.hid ((sderiv_c f a l cap w ht h.1.1 hs).mono fun _ _ h => h.as ld)
  have H2 : Hid (∀ W, Below w.heap.size w W → Calls Tryd.prog 71 #[.int .i64 f, .slice a l.length cap] W (fun e w' => ∃ g, e = .returned (.slice (some ⟨g, 0, none⟩) l.length l.length) ∧ W.heap.size ≤ g ∧ Own w' g l.length (lf (invL f l)) ∧ Below W.heap.size W w')) := Lib.hid fun W hb => (inverted_c f a l cap W (ht.below hb) h.1.1 hz hcap (hs.keep hb)).mono fun _ _ h => h.as hq.1.1
  have H3 : Hid (∀ (g1 g2 : Nat) W, Below w.heap.size w W → Own W g1 l.length (lf (sdiffL f l)) → Own W g2 l.length (lf (invL f l)) → Calls Tryd.prog 66 #[.int .i64 f, .slice (some ⟨g1, 0, none⟩) l.length l.length, .slice (some ⟨g2, 0, none⟩) l.length l.length] W (fun e w' => ∃ g, e = .returned (.slice (some ⟨g, 0, none⟩) l.length l.length) ∧ W.heap.size ≤ g ∧ Own w' g l.length (lf (smulL f (sdiffL f l) (invL f l))) ∧ Below W.heap.size W w')) := Lib.hid fun g1 g2 W hb o1 o2 => by
    have := (sprod_c f _ _ l.length l.length l.length _ _ W (ht.below hb) h0 h8 n1.1 (by omega) (Nat.le_refl _) hsd.2 hq.1.2 o1.src o2.src).mono fun _ _ h => h.as (elL_len _ _ _)
    unfold smulL
    rw [ld]
    exact this
  have hsm : ∀ j, 0 ≤ lf (smulL f (sdiffL f l) (invL f l)) j ∧ lf (smulL f (sdiffL f l) (invL f l)) j < P f := (elL_ser h0 h8 _ _).2
  have hlog : elL f l.length (isumS f (lf (smulL f (sdiffL f l) (invL f l)))) = logL f l := by
    have e := logL_eq h.1 h.2 (log_of h.1 hq)
    rw [e]
    unfold ssumL
    rw [lm]
    rfl
  have H4 : Hid (∀ (g1 : Nat) W, Below w.heap.size w W → Own W g1 l.length (lf (smulL f (sdiffL f l) (invL f l))) → Calls Tryd.prog 82 #[.int .i64 f, .slice (some ⟨g1, 0, none⟩) l.length l.length] W (OwnG W (logL f l))) := Lib.hid fun g1 W hb o1 => by
    have := integral_c f _ l.length l.length _ W (ht.below hb) h0 h8 n1.1 (by omega) h.1.2 hsm o1.src
    rwa [hlog] at this
  clear hs h hz hq ld lm hsd hsm hlog hcap
  generalize lf (smulL f (sdiffL f l) (invL f l)) = SM at *
  generalize lf (sdiffL f l) = SD at *
  generalize lf (invL f l) = SI at *
  generalize logL f l = R at *
  generalize l.length = n at *
  go_enter Tryd.func59, Tryd.ntmps59
  go_wp2_with fail
  refine H1.out.mono ?_
  rintro e w1 ⟨g1, rfl, hg1, o1, b1⟩
  have HO1 := Lib.hid o1
  clear o1 H1
  go_wp2_with fail
  refine (H2.out w1 b1).mono ?_
  rintro e w2 ⟨g2, rfl, hg2, o2, b2⟩
  have HO2 := Lib.hid o2
  have HO3 := Lib.hid (HO1.out.keep b2)
  have b3 := below_up b1 b2 b1.size
  clear o2 H2 HO1 b1 b2
  go_wp2_with fail
  refine (H3.out g1 g2 w2 b3 HO3.out HO2.out).mono ?_
  rintro e w3 ⟨g3, rfl, hg3, o3, b4⟩
  have HO4 := Lib.hid o3
  have b5 := below_up b3 b4 b3.size
  clear o3 H3 HO2 HO3 b3 b4
  go_wp2_with fail
  refine (H4.out g3 w3 b5 HO4.out).mono ?_
  intro e w4 h4
  have HR := Lib.hid (h4.up b5)
  obtain ⟨g4, rfl, _⟩ := h4
  clear HO4 H4
  go_wp2
  go_ret
  exact HR.out
end Go.Proofs.YtmgggdibbhameabDoor
namespace Go.Proofs.YtmgggdibbhameabDoor
open Go.RowKit
theorem sSeriesOk (f : Int) (a : Option Addr) (l : List Int) (cap : Nat) (w : World) (hn : l.length ≤ 1048576) (hs : Src w a l.length (lf l)) : Calls Tryd.prog 35 #[.int .i64 f, .slice a l.length cap] w (SameB w (mSeriesOk f l)) := by
  have I1 := in_c l.length 1 64 w
  by_cases h1 : 1 ≤ l.length ∧ l.length ≤ 64
  · rw [show decide (1 ≤ (l.length : Int) ∧ (l.length : Int) ≤ 64) = true from decide_eq_true (by omega)] at I1
    by_cases hf : 0 ≤ f ∧ f ≤ 8
    · have E := elements_c f a l.length cap (lf l) w hf.1 hf.2 hn hs
      have HY : Hid (∀ B : Bool, elemsB f l.length (lf l) B → mSeriesOk f l = B) := Lib.hid fun B hB => by
        cases B
        · obtain ⟨k, hk, h⟩ := hB.2 rfl
          exact sok_not.2 fun h2 => by have := h2.2.2 k hk; omega
        · exact sok_iff.2 ⟨hf, h1, hB.1 rfl⟩
      clear hs
      go_enter Tryd.func35, Tryd.ntmps35
      go_wp2_with fail
      refine I1.mono ?_
      rintro e w' ⟨rfl, rfl⟩
      go_wp2_with fail
      refine E.mono ?_
      rintro e w' ⟨B, hB, rfl, rfl⟩
      have HR := Lib.hid (HY.out B hB)
      clear hB HY
      go_wp2
      go_ret
      exact ⟨by rw [HR.out]; rfl, rfl⟩
    · have E := elements_off f a l.length cap w hf
      have HR := Lib.hid (sok_not.2 fun h : SerOk f l => hf h.1)
      clear hs hf
      go_enter Tryd.func35, Tryd.ntmps35
      go_wp2_with fail
      refine I1.mono ?_
      rintro e w' ⟨rfl, rfl⟩
      go_wp2_with fail
      refine E.mono ?_
      rintro e w' ⟨rfl, rfl⟩
      go_wp2
      go_ret
      exact ⟨by rw [HR.out]; rfl, rfl⟩
  · rw [show decide (1 ≤ (l.length : Int) ∧ (l.length : Int) ≤ 64) = false from decide_eq_false (by omega)] at I1
    have HR := Lib.hid (sok_not.2 fun h : SerOk f l => h1 h.2.1)
    clear hs h1
    go_enter Tryd.func35, Tryd.ntmps35
    go_wp2_with fail
    refine I1.mono ?_
    rintro e w' ⟨rfl, rfl⟩
    go_wp2
    go_ret
    exact ⟨by rw [HR.out]; rfl, rfl⟩
open Classical in
noncomputable def mFit (f : Int) (a b : List Int) : Bool := decide (FitOk f a b)
theorem fit_iff {f : Int} {a b : List Int} : mFit f a b = true ↔ FitOk f a b := by unfold mFit; simp
theorem fit_not {f : Int} {a b : List Int} : mFit f a b = false ↔ ¬ FitOk f a b := by unfold mFit; simp
theorem sFit (f : Int) (a : Option Addr) (l : List Int) (cap : Nat) (a2 : Option Addr) (m : List Int) (cap2 : Nat) (w : World) (hn : l.length ≤ 1048576) (hn2 : m.length ≤ 1048576) (hs : Src w a l.length (lf l)) (hs2 : Src w a2 m.length (lf m)) : Calls Tryd.prog 47 #[.int .i64 f, .slice a l.length cap, .slice a2 m.length cap2] w (SameB w (mFit f l m)) := by
  have R1 := sSeriesOk f a l cap w hn hs
  have R2 := sSeriesOk f a2 m cap2 w hn2 hs2
  clear hs hs2
  by_cases he : l.length = m.length
  · have de : ((l.length : Int) == m.length) = true := by rw [beq_iff_eq]; omega
    by_cases h1 : SerOk f l
    · rw [sok_iff.2 h1] at R1
      by_cases h2 : SerOk f m
      · rw [sok_iff.2 h2] at R2
        have HR := Lib.hid (fit_iff.2 (⟨he, h1, h2⟩ : FitOk f l m))
        clear h1 h2 he
        go_enter Tryd.func47, Tryd.ntmps47
        go_wp2_with fail
        refine R1.mono ?_
        rintro e w' ⟨rfl, rfl⟩
        go_wp2_with fail
        refine R2.mono ?_
        rintro e w' ⟨rfl, rfl⟩
        go_wp2
        go_ret
        exact ⟨by rw [HR.out]; rfl, rfl⟩
      · rw [sok_not.2 h2] at R2
        have HR := Lib.hid (fit_not.2 fun h : FitOk f l m => h2 h.2.2)
        clear h1 h2 he
        go_enter Tryd.func47, Tryd.ntmps47
        go_wp2_with fail
        refine R1.mono ?_
        rintro e w' ⟨rfl, rfl⟩
        go_wp2_with fail
        refine R2.mono ?_
        rintro e w' ⟨rfl, rfl⟩
        go_wp2
        go_ret
        exact ⟨by rw [HR.out]; rfl, rfl⟩
    · rw [sok_not.2 h1] at R1
      have HR := Lib.hid (fit_not.2 fun h : FitOk f l m => h1 h.2.1)
      clear h1 he R2
      go_enter Tryd.func47, Tryd.ntmps47
      go_wp2_with fail
      refine R1.mono ?_
      rintro e w' ⟨rfl, rfl⟩
      go_wp2
      go_ret
      exact ⟨by rw [HR.out]; rfl, rfl⟩
  · have de : ((l.length : Int) == m.length) = false := by rw [beq_eq_false_iff_ne]; omega
    have HR := Lib.hid (fit_not.2 fun h : FitOk f l m => he h.1)
    clear he R1 R2
    go_enter Tryd.func47, Tryd.ntmps47
    go_wp2
    go_ret
    exact ⟨by rw [HR.out]; rfl, rfl⟩
theorem rs_add_mul (X Y p : Int) : RS (RS X p + RS Y p) p = RS (X + Y) p := by
  unfold RS
  exact (Int.add_emod X Y p).symm
theorem cpar_rs {A B : Nat → Int} {k i : Nat} {p : Int} (h : i ≤ k) : RS (RS (cpar A B k i) p + RS (A i * B (k - i)) p) p = RS (cpar A B k (i + 1)) p := by
  rw [rs_add_mul, cpar_succ, if_pos h]
theorem cpar_all (A B : Nat → Int) (k : Nat) : cpar A B k (k + 1) = cv k A B := by
  unfold cpar
  rw [cv_sum]
  exact sumN_congr fun i hi => by rw [if_pos (by omega)]
set_option maxRecDepth 100000 in
set_option maxHeartbeats 3200000 in
theorem sSMul_some (f : Int) (b off b2 off2 n cap cap2 : Nat) (A B : Nat → Int) (w : World) (HT : Hid (∀ w2, Below w.heap.size w w2 → Calls Tryd.prog 47 #[.int .i64 f, .slice (some ⟨b, off, none⟩) n cap, .slice (some ⟨b2, off2, none⟩) n cap2] w2 (SameB w2 true)))
    (hf : 0 ≤ f ∧ f ≤ 8) (hn : n ≤ 64) (hlt : b < w.heap.size) (hlt2 : b2 < w.heap.size) (hc : ∀ j, j < n → w.cell? ⟨b, off + j, none⟩ = some (.int .i64 (A j))) (hc2 : ∀ j, j < n → w.cell? ⟨b2, off2 + j, none⟩ = some (.int .i64 (B j))) :
    Calls Tryd.prog 48 #[.int .i64 f, .slice (some ⟨b, off, none⟩) n cap, .slice (some ⟨b2, off2, none⟩) n cap2] w fun e w' => ∃ v, e = .returned v ∧ w'.ownsRow w.heap.size 3 1 v n (xsF (fun k => RS (cv k A B) (P f)) n) ∧ Below w.heap.size w w' := by
  have HC := Lib.hid hc
  have HC2 := Lib.hid hc2
  have BA : Hid (∀ o, Below w.heap.size w (w.alloc o)) := Lib.hid fun o => (Below.refl _ _).alloc (Nat.le_refl _) o
  have HMU : Hid (∀ x y w, Calls Tryd.prog 41 #[.int .i64 f, .int .i64 x, .int .i64 y] w fun e w' => e = .returned (.int .i64 (RS (x * y) (P f))) ∧ w = w') := Lib.hid fun x y w => by have := sMul f x y w; rwa [mMul, if_pos hf] at this
  have HAD : Hid (∀ x y w, Calls Tryd.prog 33 #[.int .i64 f, .int .i64 x, .int .i64 y] w fun e w' => e = .returned (.int .i64 (RS (x + y) (P f))) ∧ w = w') := Lib.hid fun x y w => by have := sAdd f x y w; rwa [mAdd, if_pos hf] at this
  obtain ⟨i0, hi, hz0, hz1, hz2⟩ := info_parts info3
  have HI := Lib.hid hi
  have HZ0 := Lib.hid hz0
  have HZ1 := Lib.hid hz1
  have HZ2 := Lib.hid hz2
  clear hi hz0 hz1 hz2 hc hc2 hf
  go_enter Tryd.func48, Tryd.ntmps48
  go_wp2_with fail
  refine (HT.out _ (BA.out _)).mono ?_
  rintro e w' ⟨rfl, rfl⟩
  clear HT
  go_wp2_with fail
  go_loopw [7, 8, 9, 10] (fun v i _ _ wr => ∃ k : Nat, i = .int .i64 k ∧ k ≤ n ∧ wr.ownsRow w.heap.size 3 1 v k (xsF (fun k => RS (cv k A B) (P f)) k) ∧ Below w.heap.size w wr) (fun _ i _ _ _ => n - (intOf i).toNat)
  case atStart => exact ⟨0, rfl, Nat.zero_le _, own_empty w _, BA.out _⟩
  case round =>
    obtain ⟨k, rfl, hk, hown, hnx⟩ := hrel
    by_cases h1 : k < n
    · have hd1 : decide ((k : Int) < (n : Int)) = true := decide_eq_true (by omega)
      have HOWN := Lib.hid hown
      clear hown
      go_wp2_with fail
      go_loopw [9, 10] (fun s j wr2 => ∃ i : Nat, j = .int .i64 i ∧ i ≤ k + 1 ∧ s = .int .i64 (RS (cpar A B k i) (P f)) ∧ ∃ q, wr2 = wr.drewN q) (fun _ j _ => k + 1 - (intOf j).toNat)
      case atStart => exact ⟨0, rfl, Nat.zero_le _, by simp [cpar, sumN, RS], 0, rfl⟩
      case round =>
        obtain ⟨i, rfl, hik, rfl, q, rfl⟩ := hrel
        have hbq := below_drewN hnx q
        by_cases h2 : i ≤ k
        · have hd2 : decide ((i : Int) ≤ k) = true := decide_eq_true (by omega)
          have d1 : wr.cell? ⟨b, off + i, none⟩ = some (.int .i64 (A i)) := (hnx.cell (p := ⟨b, off + i, none⟩) hlt).trans (HC.out i (by omega))
          have d2 : wr.cell? ⟨b2, off2 + (k - i), none⟩ = some (.int .i64 (B (k - i))) := (hnx.cell (p := ⟨b2, off2 + (k - i), none⟩) hlt2).trans (HC2.out _ (by omega))
          have HS := Lib.hid (cpar_rs (A := A) (B := B) (p := P f) h2)
          have q1 : IntKind.i64.wrap ((k : Int) - i) = (k : Int) - i := IntWalk.i64_in _ (by omega)
          have q2 : ((k : Int) - i).toNat = k - i := by omega
          have q3 : (0 : Int) ≤ (k : Int) - i := by omega
          have q4 : (k : Int) - i < n := by omega
          have q7 : (i : Int) < n := by omega
          generalize RS (cpar A B k i) (P f) = X at *
          have HMk : Hid (∀ p2 x y, Calls Tryd.prog 41 #[.int .i64 f, .int .i64 x, .int .i64 y] (wr.drewN (q + p2)) fun e w' => e = .returned (.int .i64 (RS (x * y) (P f))) ∧ ∃ n, w' = wr.drewN (q + n)) := Lib.hid fun p2 x y => (HMU.out x y _).mono fun _ _ h => ⟨h.1, p2, h.2.symm⟩
          have HAk : Hid (∀ p2 x y, Calls Tryd.prog 33 #[.int .i64 f, .int .i64 x, .int .i64 y] (wr.drewN (q + p2)) fun e w' => e = .returned (.int .i64 (RS (x + y) (P f))) ∧ ∃ n, w' = wr.drewN (q + n)) := Lib.hid fun p2 x y => (HAD.out x y _).mono fun _ _ h => ⟨h.1, p2, h.2.symm⟩
          go_wp2
          go_quiet ((first | (go_at_call 41; exact HMk.out _ _ _) | (go_at_call 33; exact HAk.out _ _ _)))
          go_wp2
          go_roundw
          case rel => exact ⟨i + 1, by go_num, by omega, vint HS.out, _, rfl⟩
          case measure => simp [intOf]; omega
        · have hd2 : decide ((i : Int) ≤ k) = false := decide_eq_false (by omega)
          obtain rfl : i = k + 1 := by omega
          have HE : Hid (RS (cpar A B k (k + 1)) (P f) = RS (cv k A B) (P f)) := Lib.hid (by rw [cpar_all])
          have hown : (wr.drewN q).ownsRow w.heap.size 3 1 _ k (xsF (fun k => RS (cv k A B) (P f)) k) := HOWN.out
          have hs := hbq.size
          have hqs : (wr.drewN q).heap.size = wr.heap.size := rfl
          go_wp2_with (at_builtin; refine wpList_append_own _ rfl _ _ 22 rfl w.heap.size 3 i0 (.int .i64 0) 1 8 Tryd.underlying22 HI.out HZ0.out HZ1.out HZ2.out rfl (by decide) _ _ _ rfl (hown.alloc _) ⟨(wr.drewN q).heap.size, 0, none⟩ 1 1 [.int .i64 (RS (cpar A B k (k + 1)) (P f))] rfl rfl ?d1 ?d2 ?d3 ?d4 ?d5 ?_)
          case d1 => exact cell_one_new _ _ _
          case d2 => intro u hu; simp at hu; subst hu; rfl
          case d3 => unfold maxLen; omega
          case d4 => omega
          case d5 => simp; omega
          intro v' w1 hown' hgrow _
          have hbel : Below w.heap.size w w1 := (hbq.alloc hs _).grown hgrow (by simp; omega) (own_ge hown)
          rw [vint HE.out, xsF_succ (fun k => RS (cv k A B) (P f))] at hown'
          clear hgrow hown HOWN
          go_wp2
          go_roundw
          case rel => exact ⟨k + 1, by go_num, by omega, hown', hbel⟩
          case measure => simp [intOf]; omega
    · have hd : decide ((k : Int) < (n : Int)) = false := decide_eq_false (by omega)
      obtain rfl : k = n := by omega
      have HO := Lib.hid hown
      clear hown
      go_wp2
      go_ret
      exact ⟨_, rfl, HO.out, hnx⟩
theorem sSeriesMul_on (f : Int) (a : Option Addr) (l : List Int) (cap : Nat) (a2 : Option Addr) (m : List Int) (cap2 : Nat) (w : World) (hs : Src w a l.length (lf l)) (hs2 : Src w a2 m.length (lf m)) (h : FitOk f l m) : Calls Tryd.prog 48 #[.int .i64 f, .slice a l.length cap, .slice a2 m.length cap2] w (OwnsL w (smulL f l m)) := by
  have h1 := h.2.1.2.1
  have R : Hid (∀ w2, Below w.heap.size w w2 → Calls Tryd.prog 47 #[.int .i64 f, .slice a l.length cap, .slice a2 m.length cap2] w2 (SameB w2 true)) := Lib.hid fun w2 hb => by
    have := sFit f a l cap a2 m cap2 w2 (by omega) (by have := h.1; omega) (hs.keep hb) (hs2.keep hb)
    rwa [fit_iff.2 h] at this
  rcases hs with hz | ⟨b, off, rfl, hlt, hc⟩
  · omega
  rcases hs2 with hz | ⟨b2, off2, rfl, hlt2, hc2⟩
  · have := h.1; omega
  rw [← h.1] at R hc2 ⊢
  refine (sSMul_some f b off b2 off2 l.length cap cap2 (lf l) (lf m) w R h.2.1.1 h1.2 hlt hlt2 hc hc2).mono fun e w' hp => ?_
  obtain ⟨v, rfl, ho, hb⟩ := hp
  exact owns_to ho (elL_len _ _ _).symm (fun j hj => by unfold smulL; rw [lf_elL, if_pos hj]; rfl) hb
end Go.Proofs.YtmgggdibbhameabDoor
namespace Go.Proofs.YtmgggdibbhameabDoor
open Go.RowKit
open Classical in
noncomputable def mShort (f : Int) (a : List Int) : Bool := decide (ShortOk f a)
theorem short_iff {f : Int} {a : List Int} : mShort f a = true ↔ ShortOk f a := by unfold mShort; simp
theorem short_not {f : Int} {a : List Int} : mShort f a = false ↔ ¬ ShortOk f a := by unfold mShort; simp
theorem sShort (f : Int) (a : Option Addr) (l : List Int) (cap : Nat) (w : World) (hn : l.length ≤ 1048576) (hs : Src w a l.length (lf l)) : Calls Tryd.prog 54 #[.int .i64 f, .slice a l.length cap] w (SameB w (mShort f l)) := by
  have R1 := sSeriesOk f a l cap w hn hs
  clear hs
  by_cases h1 : SerOk f l
  · rw [sok_iff.2 h1] at R1
    have RM := sModulus f w
    by_cases h2 : (l.length : Int) ≤ P f
    · have d : decide ((l.length : Int) ≤ P f) = true := decide_eq_true h2
      have HR := Lib.hid (short_iff.2 (⟨h1, h2⟩ : ShortOk f l))
      clear h1 h2
      go_enter Tryd.func54, Tryd.ntmps54
      go_wp2_with fail
      refine R1.mono ?_
      rintro e w' ⟨rfl, rfl⟩
      go_wp2_with fail
      refine RM.mono ?_
      rintro e w' ⟨rfl, rfl⟩
      go_wp2
      go_ret
      exact ⟨by rw [HR.out]; rfl, rfl⟩
    · have d : decide ((l.length : Int) ≤ P f) = false := decide_eq_false h2
      have HR := Lib.hid (short_not.2 fun h : ShortOk f l => h2 h.2)
      clear h1 h2
      go_enter Tryd.func54, Tryd.ntmps54
      go_wp2_with fail
      refine R1.mono ?_
      rintro e w' ⟨rfl, rfl⟩
      go_wp2_with fail
      refine RM.mono ?_
      rintro e w' ⟨rfl, rfl⟩
      go_wp2
      go_ret
      exact ⟨by rw [HR.out]; rfl, rfl⟩
  · rw [sok_not.2 h1] at R1
    have HR := Lib.hid (short_not.2 fun h : ShortOk f l => h1 h.1)
    clear h1
    go_enter Tryd.func54, Tryd.ntmps54
    go_wp2_with fail
    refine R1.mono ?_
    rintro e w' ⟨rfl, rfl⟩
    go_wp2
    go_ret
    exact ⟨by rw [HR.out]; rfl, rfl⟩
/-- The derivative's coefficients, and the 0 behind them. -/
def dfF (f : Int) (n : Nat) (A : Nat → Int) : Nat → Int := fun i => RS (if i + 1 < n then ((i : Int) + 1) * A (i + 1) else 0) (P f)
set_option maxRecDepth 100000 in
set_option maxHeartbeats 1600000 in
theorem sDiff_some (f : Int) (b off n cap : Nat) (A : Nat → Int) (w : World) (HT : Hid (∀ w2, Below w.heap.size w w2 → Calls Tryd.prog 35 #[.int .i64 f, .slice (some ⟨b, off, none⟩) n cap] w2 (SameB w2 true)))
    (hf : 0 ≤ f ∧ f ≤ 8) (n1 : 1 ≤ n) (hn : n ≤ 64) (hlt : b < w.heap.size) (hc : ∀ j, j < n → w.cell? ⟨b, off + j, none⟩ = some (.int .i64 (A j))) :
    Calls Tryd.prog 57 #[.int .i64 f, .slice (some ⟨b, off, none⟩) n cap] w fun e w' => ∃ v, e = .returned v ∧ w'.ownsRow w.heap.size 3 1 v n (xsF (dfF f n A) n) ∧ Below w.heap.size w w' := by
  have HC := Lib.hid hc
  have BA : Hid (∀ o, Below w.heap.size w (w.alloc o)) := Lib.hid fun o => (Below.refl _ _).alloc (Nat.le_refl _) o
  have HMU : Hid (∀ x y w, Calls Tryd.prog 41 #[.int .i64 f, .int .i64 x, .int .i64 y] w fun e w' => e = .returned (.int .i64 (RS (x * y) (P f))) ∧ w = w') := Lib.hid fun x y w => by have := sMul f x y w; rwa [mMul, if_pos hf] at this
  have HV : Hid (∀ k : Nat, k + 1 < n → RS (((k + 1 : Nat) : Int) * A (k + 1)) (P f) = dfF f n A k) := Lib.hid fun k hk => by unfold dfF; rw [if_pos hk]; rfl
  have HL : Hid (∀ k : Nat, k + 1 = n → (0 : Int) = dfF f n A k) := Lib.hid fun k hk => by unfold dfF; rw [if_neg (by omega)]; simp [RS]
  obtain ⟨i0, hi, hz0, hz1, hz2⟩ := info_parts info3
  have HI := Lib.hid hi
  have HZ0 := Lib.hid hz0
  have HZ1 := Lib.hid hz1
  have HZ2 := Lib.hid hz2
  clear hi hz0 hz1 hz2 hc hf
  generalize dfF f n A = D at *
  go_enter Tryd.func57, Tryd.ntmps57
  go_wp2_with fail
  refine (HT.out _ (BA.out _)).mono ?_
  rintro e w' ⟨rfl, rfl⟩
  clear HT
  go_wp2_with fail
  go_loopw [5, 6] (fun v i wr => ∃ k : Nat, i = .int .i64 ((k + 1 : Nat) : Int) ∧ k + 1 ≤ n ∧ wr.ownsRow w.heap.size 3 1 v k (xsF D k) ∧ Below w.heap.size w wr) (fun _ i _ => n - (intOf i).toNat)
  case atStart => exact ⟨0, rfl, n1, own_empty w _, BA.out _⟩
  case round =>
    obtain ⟨k, rfl, hk, hown, hnx⟩ := hrel
    have hs := hnx.size
    by_cases h1 : k + 1 < n
    · have hd1 : decide (((k + 1 : Nat) : Int) < n) = true := decide_eq_true (by omega)
      have hd2 : decide ((k : Int) + 1 < n) = true := decide_eq_true (by omega)
      have c1 : wr.cell? ⟨b, off + (k + 1), none⟩ = some (.int .i64 (A (k + 1))) := (hnx.cell (p := ⟨b, off + (k + 1), none⟩) hlt).trans (HC.out (k + 1) h1)
      have HE := Lib.hid (HV.out k h1)
      go_wp2_with fail
      refine (HMU.out _ _ wr).mono ?_
      rintro e w' ⟨rfl, rfl⟩
      have HE2 : Hid (RS (((k : Int) + 1) * A (k + 1)) (P f) = D k) := Lib.hid HE.out
      go_wp2_with (at_builtin; refine wpList_append_own _ rfl _ _ 22 rfl w.heap.size 3 i0 (.int .i64 0) 1 8 Tryd.underlying22 HI.out HZ0.out HZ1.out HZ2.out rfl (by decide) _ _ _ rfl (hown.alloc _) ⟨wr.heap.size, 0, none⟩ 1 1 [.int .i64 (RS (((k : Int) + 1) * A (k + 1)) (P f))] rfl rfl ?d1 ?d2 ?d3 ?d4 ?d5 ?_)
      case d1 => exact cell_one_new _ _ _
      case d2 => intro u hu; simp at hu; subst hu; rfl
      case d3 => unfold maxLen; omega
      case d4 => omega
      case d5 => simp; omega
      intro v' w1 hown' hgrow _
      have hbel : Below w.heap.size w w1 := (hnx.alloc hs _).grown hgrow (by simp; omega) (own_ge hown)
      rw [vint HE2.out, xsF_succ D] at hown'
      clear hgrow hown
      go_wp2
      go_roundw
      case rel => exact ⟨k + 1, by go_num, by omega, hown', hbel⟩
      case measure => simp [intOf]; omega
    · have hd1 : decide (((k + 1 : Nat) : Int) < n) = false := decide_eq_false (by omega)
      have hd2 : decide ((k : Int) + 1 < n) = false := decide_eq_false (by omega)
      have hkn : k + 1 = n := by omega
      have HE := Lib.hid (HL.out k hkn)
      have HN := Lib.hid hkn
      clear hkn
      go_wp2_with (at_builtin; refine wpList_append_own _ rfl _ _ 22 rfl w.heap.size 3 i0 (.int .i64 0) 1 8 Tryd.underlying22 HI.out HZ0.out HZ1.out HZ2.out rfl (by decide) _ _ _ rfl (hown.alloc _) ⟨wr.heap.size, 0, none⟩ 1 1 [.int .i64 0] rfl rfl ?e1 ?e2 ?e3 ?e4 ?e5 ?_)
      case e1 => exact cell_one_new _ _ _
      case e2 => intro u hu; simp at hu; subst hu; rfl
      case e3 => unfold maxLen; omega
      case e4 => omega
      case e5 => simp; omega
      intro v' w1 hown' hgrow _
      have hbel : Below w.heap.size w w1 := (hnx.alloc hs _).grown hgrow (by simp; omega) (own_ge hown)
      rw [vint HE.out, xsF_succ D] at hown'
      have HO : Hid (w1.ownsRow w.heap.size 3 1 v' n (xsF D n)) := Lib.hid (by have := hown'; rwa [HN.out] at this)
      clear hgrow hown hown'
      go_wp2
      go_ret
      exact ⟨_, rfl, HO.out, hbel⟩
theorem sSeriesDiff_on (f : Int) (a : Option Addr) (l : List Int) (cap : Nat) (w : World) (hs : Src w a l.length (lf l)) (h : SerOk f l) : Calls Tryd.prog 57 #[.int .i64 f, .slice a l.length cap] w (OwnsL w (sdiffL f l)) := by
  have h1 := h.2.1
  have R : Hid (∀ w2, Below w.heap.size w w2 → Calls Tryd.prog 35 #[.int .i64 f, .slice a l.length cap] w2 (SameB w2 true)) := Lib.hid fun w2 hb => by
    have := sSeriesOk f a l cap w2 (by omega) (hs.keep hb)
    rwa [sok_iff.2 h] at this
  rcases hs with hz | ⟨b, off, rfl, hlt, hc⟩
  · omega
  refine (sDiff_some f b off l.length cap (lf l) w R h.1 h1.1 h1.2 hlt hc).mono fun e w' hp => ?_
  obtain ⟨v, rfl, ho, hb⟩ := hp
  exact owns_to ho (elL_len _ _ _).symm (fun j hj => by unfold sdiffL; rw [lf_elL, if_pos hj]; rfl) hb
/-- The integral's coefficients. -/
def smF (f : Int) (A : Nat → Int) : Nat → Int := fun i => RS (if i = 0 then 0 else A (i - 1) * mPower f i (-1)) (P f)
set_option maxRecDepth 100000 in
set_option maxHeartbeats 1600000 in
theorem sSum_some (f : Int) (b off n cap : Nat) (A : Nat → Int) (w : World) (HT : Hid (∀ w2, Below w.heap.size w w2 → Calls Tryd.prog 54 #[.int .i64 f, .slice (some ⟨b, off, none⟩) n cap] w2 (SameB w2 true)))
    (hf : 0 ≤ f ∧ f ≤ 8) (n1 : 1 ≤ n) (hn : n ≤ 64) (hlt : b < w.heap.size) (hc : ∀ j, j < n → w.cell? ⟨b, off + j, none⟩ = some (.int .i64 (A j))) :
    Calls Tryd.prog 56 #[.int .i64 f, .slice (some ⟨b, off, none⟩) n cap] w fun e w' => ∃ v, e = .returned (.tuple #[v, .bool true]) ∧ w'.ownsRow w.heap.size 3 1 v n (xsF (smF f A) n) ∧ Below w.heap.size w w' := by
  have HC := Lib.hid hc
  have BA : Hid (∀ o, Below w.heap.size w (w.alloc o)) := Lib.hid fun o => (Below.refl _ _).alloc (Nat.le_refl _) o
  have HMU : Hid (∀ x y w, Calls Tryd.prog 41 #[.int .i64 f, .int .i64 x, .int .i64 y] w fun e w' => e = .returned (.int .i64 (RS (x * y) (P f))) ∧ w = w') := Lib.hid fun x y w => by have := sMul f x y w; rwa [mMul, if_pos hf] at this
  have HIN : Hid (∀ x w, Calls Tryd.prog 43 #[.int .i64 f, .int .i64 x] w fun e w' => e = .returned (.int .i64 (mPower f x (-1))) ∧ w = w') := Lib.hid fun x w => sInverse f x w
  have HV : Hid (∀ k : Nat, RS (A k * mPower f ((k + 1 : Nat) : Int) (-1)) (P f) = smF f A (k + 1)) := Lib.hid fun k => by unfold smF; rw [if_neg (by omega)]; rfl
  have H0 : Hid ((0 : Int) = smF f A 0) := Lib.hid (by unfold smF; rw [if_pos rfl]; simp [RS])
  have HS0 : Hid ((w.alloc (.cells #[.int .i64 0] 3)).ownsRow w.heap.size 3 1 (.slice (some ⟨w.heap.size, 0, none⟩) 1 1) 1 (xsF (smF f A) 1)) := Lib.hid (by
    have h := own_new w (.int .i64 0) 3
    have e : xsF (smF f A) 1 = [.int .i64 (smF f A 0)] := rfl
    rw [e, ← H0.out]
    exact h)
  obtain ⟨i0, hi, hz0, hz1, hz2⟩ := info_parts info3
  have HI := Lib.hid hi
  have HZ0 := Lib.hid hz0
  have HZ1 := Lib.hid hz1
  have HZ2 := Lib.hid hz2
  clear hi hz0 hz1 hz2 hc hf H0
  generalize smF f A = D at *
  go_enter Tryd.func56, Tryd.ntmps56
  go_wp2_with fail
  refine (HT.out _ (Below.refl _ _)).mono ?_
  rintro e w' ⟨rfl, rfl⟩
  clear HT
  go_wp2_with fail
  go_loopw [6, 7] (fun v i wr => ∃ k : Nat, i = .int .i64 k ∧ 1 ≤ k ∧ k ≤ n ∧ wr.ownsRow w.heap.size 3 1 v k (xsF D k) ∧ Below w.heap.size w wr) (fun _ i _ => n - (intOf i).toNat)
  case atStart => exact ⟨1, rfl, Nat.le_refl _, n1, HS0.out, BA.out _⟩
  case round =>
    clear HS0
    obtain ⟨k, rfl, hk1, hk, hown, hnx⟩ := hrel
    have hs := hnx.size
    by_cases h1 : k < n
    · have hd1 : decide ((k : Int) < n) = true := decide_eq_true (by omega)
      have c1 : wr.cell? ⟨b, off + (k - 1), none⟩ = some (.int .i64 (A (k - 1))) := (hnx.cell (p := ⟨b, off + (k - 1), none⟩) hlt).trans (HC.out (k - 1) (by omega))
      have hge := own_ge hown
      have HE : Hid (RS (A (k - 1) * mPower f (k : Int) (-1)) (P f) = D k) := Lib.hid (by
        have := HV.out (k - 1)
        rwa [show k - 1 + 1 = k by omega] at this)
      have q1 : IntKind.i64.wrap ((k : Int) - 1) = (k : Int) - 1 := IntWalk.i64_in _ (by omega)
      have q2 : ((k : Int) - 1).toNat = k - 1 := by omega
      have q3 : (0 : Int) ≤ (k : Int) - 1 := by omega
      have q4 : (k : Int) - 1 < (n : Int) := by omega
      have r1 : (1 : Int) ≤ (k : Int) := by omega
      have r2 : (k : Int) < (n : Int) + 1 := by omega
      have r3 : (k : Int) ≤ (n : Int) := by omega
      go_wp2_with fail
      go_region_held3 (fun W => W.cell? ⟨b, off + (k - 1), none⟩ = some (.int .i64 (A (k - 1))))
        (first
          | go_keep
          | (rw [hgrow.cell_far _ (by simp; omega) (fun e => by have h9 : w.heap.size ≤ b := hge _ e.symm; omega)]; assumption))
        (first
          | (go_at_call 43; refine (HIN.out _ _).mono ?_; rintro e w' ⟨rfl, rfl⟩)
          | (go_at_call 41; refine (HMU.out (A (k - 1)) (mPower f (k : Int) (-1)) _).mono ?_; rintro e w' ⟨rfl, rfl⟩)
          | (refine step_append_lies _ (by rfl) _ _ _ (by rfl) w.heap.size 3 i0 _ 1 8 Tryd.underlying22 HI.out HZ0.out HZ1.out HZ2.out rfl (by omega) _ k _ (by rfl) ((hown.alloc _).drew) ⟨wr.heap.size, 0, none⟩ 1 1 [.int .i64 (RS (A (k - 1) * mPower f (k : Int) (-1)) (P f))] (by rfl) (by rfl) (World.news_of_block (cs := #[.int .i64 (RS (A (k - 1) * mPower f (k : Int) (-1)) (P f))]) (t := 3) (fr := (0, 0)) (heap_alloc_new wr _)) (by simp [Value.oneCell']) (by omega) (by unfold maxLen; omega) (by omega) (by simp; omega) (wr.heap.size + 1) (by simp) ?_; intro gg cap' w1 hown' hgrow hat hlt'))
      have hbel : Below w.heap.size w w1 := ((hnx.alloc hs _).drew).grown hgrow (by simp; omega) hge
      rw [vint HE.out, xsF_succ D] at hown'
      clear hgrow hown c1 hat hlt'
      go_wp2
      go_roundw
      case rel => exact ⟨k + 1, by go_num, by omega, by omega, hown', hbel⟩
      case measure => simp [intOf]; omega
    · have hd1 : decide ((k : Int) < n) = false := decide_eq_false (by omega)
      obtain rfl : k = n := by omega
      have HO := Lib.hid hown
      clear hown
      go_wp2
      go_ret2
      exact ⟨_, rfl, HO.out, hnx⟩
theorem sSeriesSum_on (f : Int) (a : Option Addr) (l : List Int) (cap : Nat) (w : World) (hs : Src w a l.length (lf l)) (h : ShortOk f l) : Calls Tryd.prog 56 #[.int .i64 f, .slice a l.length cap] w (ListLB w (ssumL f l) true) := by
  have h1 := h.1.2.1
  have R : Hid (∀ w2, Below w.heap.size w w2 → Calls Tryd.prog 54 #[.int .i64 f, .slice a l.length cap] w2 (SameB w2 true)) := Lib.hid fun w2 hb => by
    have := sShort f a l cap w2 (by omega) (hs.keep hb)
    rwa [short_iff.2 h] at this
  rcases hs with hz | ⟨b, off, rfl, hlt, hc⟩
  · omega
  refine (sSum_some f b off l.length cap (lf l) w R h.1.1 h1.1 h1.2 hlt hc).mono fun e w' hp => ?_
  obtain ⟨v, rfl, ho, hb⟩ := hp
  obtain ⟨x, c, hv, hS, hB⟩ := (owns_to (w := w) (l := ssumL f l) ho (elL_len _ _ _).symm (fun j hj => by unfold ssumL; rw [lf_elL, if_pos hj]; rfl) hb).list
  have hv2 := Ending.returned.inj hv
  subst hv2
  exact ⟨x, c, rfl, hS, hB⟩
end Go.Proofs.YtmgggdibbhameabDoor
namespace Go.Proofs.YtmgggdibbhameabDoor
open Go.RowKit
set_option maxRecDepth 100000 in
set_option maxHeartbeats 6400000 in
theorem divide_lt (f : Int) (a : Option Addr) (b2 off2 k : Nat) (l m : List Int) (cap cap2 : Nat) (w : World) (ht : Tab w) (h0 : 0 ≤ f) (h8 : f ≤ 8) (hn : l.length ≤ 4096) (hk : m.length = k + 1) (hk2 : k + 1 ≤ 4096) (hlt : l.length < k) (hl : Pol f l) (hm : Pol f m) (hs : Src w a l.length (lf l)) (hlt2 : b2 < w.heap.size) (hc2 : ∀ j, j < k + 1 → w.cell? ⟨b2, off2 + j, none⟩ = some (.int .i64 (lf m j))) :
    Calls Tryd.prog 100 #[.int .i64 f, .slice a l.length cap, .slice (some ⟨b2, off2, none⟩) (k + 1) cap2] w (DivR f l m w) := by
  have hp := P_bd h0 h8
  have HP := Lib.hid fun (w1 : World) (hb : Below w.heap.size w w1) => poly_c a l.length cap (lf l) w1 (by omega) (hs.keep hb)
  have hE : Hid (cutL l.length (lf l) = l) := Lib.hid (cut_self hl)
  have bm := hm.1 k
  have HC2 := Lib.hid hc2
  have HB := Lib.hid hm.1
  have bmz : lf m k ≠ 0 := by
    rcases hm.2 with h | h
    · omega
    · rw [hk] at h; exact h
  have HINV : Hid ((lf m k * PW (P f) (lf m k) (P f - 2)) % P f = 1 % P f) := Lib.hid (by
    rw [inverse_inv h0 h8 (by omega) bm.2]
    have := inv_top h0 h8 hm (by omega)
    rw [hk, show k + 1 - 1 = k by omega] at this
    exact this)
  have BI := PW_bd (m := P f) (x := lf m k) (e := P f - 2) (by omega)
  rw [hE.out] at HP
  clear hs hc2
  have hmk := made0
  have hlt' : (l.length : Int) < k := by omega
  go_enter Tryd.func100, Tryd.ntmps100
  go_wp2_with fail
  go_step3
  go_wp2_with fail
  have hb1 : Below w.heap.size w (w.alloc (.cells (madeCells #[.int .i64 0] 0) 3)) := (Below.refl _ _).alloc (Nat.le_refl _) _
  have HQ0 : Hid (Own (w.alloc (.cells (madeCells #[.int .i64 0] 0) 3)) w.heap.size 0 (fun _ => 0)) := Lib.hid (own_congr (World.rowIs_made w (.int .i64 0) 0 3) rfl (fun j _ => rfl))
  refine (HP.out _ hb1).mono ?_
  rintro e w1 ⟨gr, rfl, hgr, hO, hB⟩
  rw [World.size_alloc] at hgr
  have hBw := below_up hb1 hB (by simp)
  have c2 : w1.cell? ⟨b2, off2 + k, none⟩ = some (.int .i64 (lf m k)) := (hBw.cell (p := ⟨b2, off2 + k, none⟩) hlt2).trans (HC2.out k (by omega))
  have HQ1 := Lib.hid (HQ0.out.keep hB)
  have HR1 := Lib.hid hO
  clear hO HQ0 hB hb1 HP
  go_wp2_with fail
  refine (inverse_c f (lf m k) w1 (ht.below hBw) h0 h8 bm.1 bm.2).mono ?_
  rintro e w' ⟨rfl, rfl⟩
  go_wp2_with fail
  go_step3
  go_wp2_with fail
  refine wp_loop_rounds 1 ?_
  rw [rounds_succ]
  go_wp2_with fail
  refine (poly_c (some ⟨gr, 0, none⟩) l.length l.length (lf l) w1 (by omega) HR1.out.src).mono ?_
  rw [hE.out]
  rintro e w2 ⟨g2, rfl, hg2, hO2, hB2⟩
  have hlt1 := HR1.out.lt
  have HF : Hid (DivR f l m w (.returned (.tuple #[.slice (some ⟨w.heap.size, 0, none⟩) 0 0, .slice (some ⟨g2, 0, none⟩) l.length l.length])) w2) := Lib.hid (by
    have := div_finish h0 h8 hl hm (w := w) (w' := w2) (gq := w.heap.size) (gr := g2) (M := 0) (DivAt.start hl (P_pos h0 h8)) (by omega) (Nat.le_refl _) (.inr ⟨by omega, rfl⟩) (fun _ _ => rfl) (Nat.le_refl _) (by omega) (HQ1.out.keep hB2) (by rw [hE.out]; exact hO2) (below_up hBw hB2 hBw.size)
    rw [hE.out] at this
    exact this)
  clear hO2
  go_wp2
  (try rw [Exit.noGoto_ret])
  go_ret2
  exact HF.out
set_option maxRecDepth 100000 in
set_option maxHeartbeats 6400000 in
theorem divide_eq (f : Int) (a : Option Addr) (b2 off2 k : Nat) (l m : List Int) (cap cap2 : Nat) (w : World) (ht : Tab w) (h0 : 0 ≤ f) (h8 : f ≤ 8) (_hn : l.length ≤ 4096) (hk : m.length = k + 1) (hk2 : k + 1 ≤ 4096) (hlt : l.length ≤ k) (hlt3 : k ≤ l.length) (hl : Pol f l) (hm : Pol f m) (hs : Src w a l.length (lf l)) (hlt2 : b2 < w.heap.size) (hc2 : ∀ j, j < k + 1 → w.cell? ⟨b2, off2 + j, none⟩ = some (.int .i64 (lf m j))) :
    Calls Tryd.prog 100 #[.int .i64 f, .slice a l.length cap, .slice (some ⟨b2, off2, none⟩) (k + 1) cap2] w (DivR f l m w) := by
  have hp := P_bd h0 h8
  have HP := Lib.hid fun (w1 : World) (hb : Below w.heap.size w w1) => poly_c a l.length cap (lf l) w1 (by omega) (hs.keep hb)
  have hE : Hid (cutL l.length (lf l) = l) := Lib.hid (cut_self hl)
  have bm := hm.1 k
  have HC2 := Lib.hid hc2
  have HB := Lib.hid hm.1
  have bmz : lf m k ≠ 0 := by
    rcases hm.2 with h | h
    · omega
    · rw [hk] at h; exact h
  have HINV : Hid ((lf m k * PW (P f) (lf m k) (P f - 2)) % P f = 1 % P f) := Lib.hid (by
    rw [inverse_inv h0 h8 (by omega) bm.2]
    have := inv_top h0 h8 hm (by omega)
    rw [hk, show k + 1 - 1 = k by omega] at this
    exact this)
  have BI := PW_bd (m := P f) (x := lf m k) (e := P f - 2) (by omega)
  rw [hE.out] at HP
  clear hs hc2
  have hmk0 := made0
  have hmk : ∀ w, (Instr.makeSlice 22 (.int .i64 ((l.length : Int) - ((k : Int) + 1) + 1)) (.int .i64 ((l.length : Int) - ((k : Int) + 1) + 1))).run Tryd.prog w = .ok (.slice (some ⟨w.heap.size, 0, none⟩) 0 0) (w.alloc (.cells (madeCells #[.int .i64 0] 0) 3)) := fun w => by
    rw [show ((l.length : Int) - ((k : Int) + 1) + 1) = 0 by omega]; exact made0 w
  go_enter Tryd.func100, Tryd.ntmps100
  go_wp2_with fail
  go_step3
  go_wp2_with fail
  have hb1 : Below w.heap.size w (w.alloc (.cells (madeCells #[.int .i64 0] 0) 3)) := (Below.refl _ _).alloc (Nat.le_refl _) _
  have HQ0 : Hid (Own (w.alloc (.cells (madeCells #[.int .i64 0] 0) 3)) w.heap.size 0 (fun _ => 0)) := Lib.hid (own_congr (World.rowIs_made w (.int .i64 0) 0 3) rfl (fun j _ => rfl))
  refine (HP.out _ hb1).mono ?_
  rintro e w1 ⟨gr, rfl, hgr, hO, hB⟩
  rw [World.size_alloc] at hgr
  have hBw := below_up hb1 hB (by simp)
  have c2 : w1.cell? ⟨b2, off2 + k, none⟩ = some (.int .i64 (lf m k)) := (hBw.cell (p := ⟨b2, off2 + k, none⟩) hlt2).trans (HC2.out k (by omega))
  have HQ1 := Lib.hid (HQ0.out.keep hB)
  have HR1 := Lib.hid hO
  clear hO HQ0 hB hb1 HP
  go_wp2_with fail
  refine (inverse_c f (lf m k) w1 (ht.below hBw) h0 h8 bm.1 bm.2).mono ?_
  rintro e w' ⟨rfl, rfl⟩
  go_wp2_with fail
  go_step3
  go_wp2_with fail
  refine wp_loop_rounds 1 ?_
  rw [rounds_succ]
  go_wp2_with fail
  refine (poly_c (some ⟨gr, 0, none⟩) l.length l.length (lf l) w1 (by omega) HR1.out.src).mono ?_
  rw [hE.out]
  rintro e w2 ⟨g2, rfl, hg2, hO2, hB2⟩
  have hlt1 := HR1.out.lt
  have HF : Hid (DivR f l m w (.returned (.tuple #[.slice (some ⟨w.heap.size, 0, none⟩) 0 0, .slice (some ⟨g2, 0, none⟩) l.length l.length])) w2) := Lib.hid (by
    have := div_finish h0 h8 hl hm (w := w) (w' := w2) (gq := w.heap.size) (gr := g2) (M := 0) (DivAt.start hl (P_pos h0 h8)) (by omega) (Nat.le_refl _) (.inr ⟨by omega, rfl⟩) (fun _ _ => rfl) (Nat.le_refl _) (by omega) (HQ1.out.keep hB2) (by rw [hE.out]; exact hO2) (below_up hBw hB2 hBw.size)
    rw [hE.out] at this
    exact this)
  clear hO2
  go_wp2
  (try rw [Exit.noGoto_ret])
  go_ret2
  exact HF.out
set_option maxRecDepth 100000 in
set_option maxHeartbeats 6400000 in
theorem divide_ge (f : Int) (a : Option Addr) (b2 off2 k : Nat) (l m : List Int) (cap cap2 : Nat) (w : World) (ht : Tab w) (h0 : 0 ≤ f) (h8 : f ≤ 8) (hn : l.length ≤ 4096) (hk : m.length = k + 1) (hk2 : k + 1 ≤ 4096) (M : Nat) (hlt : M + k = l.length) (hM : 0 < M) (hl : Pol f l) (hm : Pol f m) (hs : Src w a l.length (lf l)) (hlt2 : b2 < w.heap.size) (hc2 : ∀ j, j < k + 1 → w.cell? ⟨b2, off2 + j, none⟩ = some (.int .i64 (lf m j))) :
    Calls Tryd.prog 100 #[.int .i64 f, .slice a l.length cap, .slice (some ⟨b2, off2, none⟩) (k + 1) cap2] w (DivR f l m w) := by
  have hp := P_bd h0 h8
  have HP := Lib.hid fun (w1 : World) (hb : Below w.heap.size w w1) => poly_c a l.length cap (lf l) w1 (by omega) (hs.keep hb)
  have hE : Hid (cutL l.length (lf l) = l) := Lib.hid (cut_self hl)
  have bm := hm.1 k
  have HC2 := Lib.hid hc2
  have HB := Lib.hid hm.1
  have bmz : lf m k ≠ 0 := by
    rcases hm.2 with h | h
    · omega
    · rw [hk] at h; exact h
  have HINV : Hid ((lf m k * PW (P f) (lf m k) (P f - 2)) % P f = 1 % P f) := Lib.hid (by
    rw [inverse_inv h0 h8 (by omega) bm.2]
    have := inv_top h0 h8 hm (by omega)
    rw [hk, show k + 1 - 1 = k by omega] at this
    exact this)
  have BI := PW_bd (m := P f) (x := lf m k) (e := P f - 2) (by omega)
  rw [hE.out] at HP
  clear hs hc2
  have hmk : ∀ w, (Instr.makeSlice 22 (.int .i64 ((l.length : Int) - ((k : Int) + 1) + 1)) (.int .i64 ((l.length : Int) - ((k : Int) + 1) + 1))).run Tryd.prog w = .ok (.slice (some ⟨w.heap.size, 0, none⟩) M M) (w.alloc (.cells (madeCells #[.int .i64 0] M) 3)) := fun w => by
    rw [show ((l.length : Int) - ((k : Int) + 1) + 1) = (M : Int) by omega]; exact made_n M (by omega) w
  go_enter Tryd.func100, Tryd.ntmps100
  go_wp2_with fail
  go_step3
  go_wp2_with fail
  have hb1 : Below w.heap.size w (w.alloc (.cells (madeCells #[.int .i64 0] M) 3)) := (Below.refl _ _).alloc (Nat.le_refl _) _
  have HQ0 : Hid (Own (w.alloc (.cells (madeCells #[.int .i64 0] M) 3)) w.heap.size M (fun _ => 0)) := Lib.hid (own_congr (World.rowIs_made w (.int .i64 0) M 3) rfl (fun j _ => rfl))
  refine (HP.out _ hb1).mono ?_
  rintro e w1 ⟨gr, rfl, hgr, hO, hB⟩
  rw [World.size_alloc] at hgr
  have hBw := below_up hb1 hB (by simp)
  have c2 : w1.cell? ⟨b2, off2 + k, none⟩ = some (.int .i64 (lf m k)) := (hBw.cell (p := ⟨b2, off2 + k, none⟩) hlt2).trans (HC2.out k (by omega))
  have HQ1 := Lib.hid (HQ0.out.keep hB)
  have HR1 := Lib.hid hO
  clear hO HQ0 hB hb1 HP
  go_wp2_with fail
  refine (inverse_c f (lf m k) w1 (ht.below hBw) h0 h8 bm.1 bm.2).mono ?_
  rintro e w' ⟨rfl, rfl⟩
  go_wp2_with fail
  go_step3
  go_wp2_with fail
  clear hmk
  have HFIN : Hid (∀ (wr w2 : World) (g2 n' : Nat) (Q R : Nat → Int), DivAt f (lf l) m n' Q R → n' < k + 1 → n' ≤ l.length → (∀ j, M ≤ j → Q j = 0) → w.heap.size < g2 → Own w2 w.heap.size M Q → Own w2 g2 (cutL l.length R).length (lf (cutL l.length R)) → Below w.heap.size w w2 →
      DivR f l m w (.returned (.tuple #[.slice (some ⟨w.heap.size, 0, none⟩) M M, .slice (some ⟨g2, 0, none⟩) (cutL l.length R).length (cutL l.length R).length])) w2) := Lib.hid fun wr w2 g2 n' Q R hd h1 h2 hQ hg ho1 ho2 hb =>
    div_finish h0 h8 hl hm hd (by omega) h2 (.inl ⟨by omega, by omega⟩) hQ (Nat.le_refl _) hg ho1 ho2 hb
  have HSTEP : Hid (∀ (s : Nat) (Q R : Nat → Int), DivAt f (lf l) m (s + k + 1) Q R → DivAt f (lf l) m (s + k) (upd Q s (RS (R (s + k) * PW (P f) (lf m k) (P f - 2)) (P f))) (dst f m R (RS (R (s + k) * PW (P f) (lf m k) (P f - 2)) (P f)) s (k + 1))) := Lib.hid fun s Q R h => h.stepK h0 h8 hk HINV.out
  have HST : Hid (DivAt f (lf l) m l.length (fun _ => 0) (lf l)) := Lib.hid (DivAt.start hl (P_pos h0 h8))
  generalize PW (P f) (lf m k) (P f - 2) = V at *
  clear HINV hE bmz
  have hgr1 : w.heap.size < gr := by omega
  go_loopw [12, 13, 14, 15] (fun sh _ _ _ wr => ∃ (sI : Int) (n' : Nat) (Q R : Nat → Int), sh = .int .i64 sI ∧ sI + k + 1 = n' ∧ n' ≤ l.length ∧ Hid (DivAt f (lf l) m n' Q R) ∧ Hid (∀ j, M ≤ j → Q j = 0) ∧ Own wr w.heap.size M Q ∧ Own wr gr l.length R ∧ Below w.heap.size w wr) (fun sh _ _ _ _ => (intOf sh + 1).toNat)
  case atStart => exact ⟨_, l.length, fun _ => 0, lf l, rfl, by omega, Nat.le_refl _, HST, Lib.hid (fun _ _ => rfl), HQ1.out, HR1.out, hBw⟩
  case round =>
    clear HQ1 HR1 hBw c2 HST
    obtain ⟨sI, n', Q, R, rfl, hsn, hnn, HD, HZ, hoq, hor, hb⟩ := hrel
    by_cases hs0 : 0 ≤ sI
    · obtain ⟨s, rfl⟩ := Int.eq_ofNat_of_zero_le hs0
      obtain rfl : n' = s + k + 1 := by omega
      have hsk : s + k < l.length := by omega
      have hsM : s < M := by omega
      have cR := World.rowIs.cell hor hsk
      have bR := HD.out.2.1 (s + k)
      have cQ := World.rowIs.cell hoq hsM
      have fQ := World.rowIs.frozen hoq s
      have HT := Lib.hid (ht.below hb)
      have bfac := RS_bd (x := R (s + k) * V) (m := P f) (by omega)
      have HN := Lib.hid (HSTEP.out s Q R HD.out)
      have HQ' := Lib.hid (own_upd (s := s) (m := RS (R (s + k) * V) (P f)) hoq)
      have HR' := Lib.hid (own_other (k := s) (v := .int .i64 (RS (R (s + k) * V) (P f))) hor (show gr ≠ w.heap.size by omega))
      have HB' := Lib.hid (hb.setCell (p := ⟨w.heap.size, s, none⟩) (Nat.le_refl _) (.int .i64 (RS (R (s + k) * V) (P f))))
      have HZ' : Hid (∀ j, M ≤ j → upd Q s (RS (R (s + k) * V) (P f)) j = 0) := Lib.hid (fun j hj => by unfold upd; rw [if_neg (by omega)]; exact HZ.out j hj)
      have HRb := Lib.hid HD.out.2.1
      clear HD HZ hoq hor
      go_wp2_with fail
      refine (mul_c f (R (s + k)) V wr HT.out h0 h8 bR.1 bR.2 BI.1 BI.2).mono ?_
      rintro e w' ⟨rfl, rfl⟩
      generalize hfac : RS (R (s + k) * V) (P f) = fac at *
      go_wp2_with fail
      obtain ⟨W1, hW1⟩ : ∃ W1, wr.setCell ⟨w.heap.size, s, none⟩ (.int .i64 fac) = W1 := ⟨_, rfl⟩
      rw [hW1] at HQ' HR' HB' ⊢
      have HR2 : Hid (Own W1 gr l.length (dst f m R fac s 0)) := Lib.hid (own_congr HR'.out rfl (fun j _ => (dst_zero f m R fac s j).symm))
      clear hW1 HR' cR cQ fQ hb HT
      go_loopw [14, 15, 57] (fun _ _ i W => ∃ j : Nat, i = .int .i64 j ∧ j ≤ k + 1 ∧ Own W gr l.length (dst f m R fac s j) ∧ Own W w.heap.size M (upd Q s fac) ∧ Below w.heap.size w W) (fun _ _ i _ => k + 1 - (intOf i).toNat)
      case atStart => exact ⟨0, rfl, Nat.zero_le _, HR2.out, HQ'.out, HB'.out⟩
      case round =>
        clear HR2 HQ' HB'
        obtain ⟨j, rfl, hj, hor, hoq, hb⟩ := hrel
        by_cases hjk : j < k + 1
        · have hdj : decide ((j : Int) < (k : Int) + 1) = true := decide_eq_true (by omega)
          have d2 : wr.cell? ⟨b2, off2 + j, none⟩ = some (.int .i64 (lf m j)) := (hb.cell (p := ⟨b2, off2 + j, none⟩) hlt2).trans (HC2.out j hjk)
          have hsj : s + j < l.length := by omega
          have hor1 : Own wr.drew gr l.length (dst f m R fac s j) := hor
          have hoq1 : Own wr.drew w.heap.size M (upd Q s fac) := hoq
          have hb1 : Below w.heap.size w wr.drew := ⟨hb.os, hb.tape, hb.output, hb.size, hb.block⟩
          have cR := World.rowIs.cell hor hsj
          rw [dst_at] at cR
          have fR := World.rowIs.frozen hor1 (s + j)
          have cR1 := World.rowIs.cell hor1 hsj
          rw [dst_at] at cR1
          have HTw : Hid (Tab wr.drew) := Lib.hid (Tab.keep (ht.below hb) (fun _ => rfl))
          have bR := HRb.out (s + j)
          have bM := HB.out j
          have bX := RS_bd (x := fac * lf m j) (m := P f) (by omega)
          have HS1 := Lib.hid (own_dst hor1)
          have HS2 := Lib.hid (own_other (k := s + j) (v := .int .i64 (RS (R (s + j) - RS (fac * lf m j) (P f)) (P f))) hoq1 (show w.heap.size ≠ gr by omega))
          have HS3 := Lib.hid (hb1.setCell (p := ⟨gr, s + j, none⟩) (show w.heap.size ≤ gr by omega) (.int .i64 (RS (R (s + j) - RS (fac * lf m j) (P f)) (P f))))
          have hw : IntKind.i64.wrap ((s : Int) + j) = (s : Int) + j := IntWalk.i64_in _ (by omega)
          have hi1 : (0 : Int) ≤ (s : Int) + j := by omega
          have hi2 : (s : Int) + j < (l.length : Int) := by omega
          have hi3 : ((s : Int) + j).toNat = s + j := by omega
          clear hor hoq hor1 hoq1
          go_wp2
          refine wp_region_still_tail 17 (by kernel_rfl) (by kernel_rfl) ?_
          simp only [List.take_succ_cons, List.take_zero, List.drop_succ_cons, List.drop_zero]
          still_step
          still_step
          still_step
          still_step
          still_step
          still_step
          still_step
          still_step
          still_step
          still_step
          still_step
          still_step
          still_step
          still_step
          still_call ((mul_c f fac (lf m j) wr.drew HTw.out h0 h8 bfac.1 bfac.2 bM.1 bM.2).mono fun _ _ h => ⟨h.1, h.2.symm⟩)
          still_call ((sub_c f (R (s + j)) (RS (fac * lf m j) (P f)) wr.drew HTw.out h0 h8 bR.1 bR.2 bX.1 bX.2).mono fun _ _ h => ⟨h.1, h.2.symm⟩)
          still_step
          refine wpStill_nil ?_
          change wpList _ _ _ _ _ wr.drew
          clear hw hi1 hi2 hi3 cR d2
          generalize wr.drew = W2 at *
          go_wp2
          go_roundw
          case rel => exact ⟨j + 1, by go_num, by omega, HS1.out, HS2.out, HS3.out⟩
          case measure => simp [intOf] <;> omega
        · have hdj : decide ((j : Int) < (k : Int) + 1) = false := decide_eq_false (by omega)
          obtain rfl : j = k + 1 := by omega
          have HOR := Lib.hid hor
          have HOQ := Lib.hid hoq
          clear hor hoq
          generalize dst f m R fac s (k + 1) = R' at *
          generalize upd Q s fac = Q' at *
          go_wp2_with fail
          go_loop [12] (fun sh => ∃ (u t : Nat), sh = .int .i64 u ∧ t = u + k + 1 ∧ t ≤ s + k + 1 ∧ Hid ((t = s + k + 1 ∧ DivAt f (lf l) m (u + k) Q' R') ∨ (t < s + k + 1 ∧ DivAt f (lf l) m t Q' R'))) (fun sh => (intOf sh).toNat)
          case atStart => exact ⟨s, s + k + 1, rfl, rfl, Nat.le_refl _, Lib.hid (.inl ⟨rfl, HN.out⟩)⟩
          case round =>
            clear HN
            obtain ⟨u, t, rfl, ht1, ht2, HD2⟩ := hrel
            have huk : u + k < l.length := by omega
            have cR := World.rowIs.cell HOR.out huk
            by_cases hz : R' (u + k) = 0
            · have HD3 : Hid (DivAt f (lf l) m (u + k) Q' R') := Lib.hid (by
                rcases HD2.out with ⟨_, h⟩ | ⟨_, h⟩
                · exact h
                · rw [ht1] at h; exact h.skip hz)
              have ez : (R' (u + k) == 0) = true := by simp [hz]
              clear hz HD2
              by_cases hu : u = 0
              · subst hu
                have HD3' : Hid (DivAt f (lf l) m k Q' R') := Lib.hid (by have := HD3.out; rwa [Nat.zero_add] at this)
                rw [Nat.zero_add] at cR ez
                clear HD3
                have HP2 := Lib.hid (poly_own (u := wr) (by omega) HOR.out (fun j _ => rfl) (Below.refl _ _))
                have hlt1 := HOR.out.lt
                go_wp2_with fail
                refine HP2.out.mono ?_
                rintro e w2 ⟨g2, rfl, hg2, hO2, hB2⟩
                have HF := Lib.hid (HFIN.out wr w2 g2 k Q' R' HD3'.out (by omega) (by omega) HZ'.out (by omega) (HOQ.out.keep hB2) hO2 (below_up hb hB2 hb.size))
                clear hO2 HP2
                go_wp2
                (try rw [Exit.noGoto_ret])
                go_ret2
                exact HF.out
              · obtain ⟨v, rfl⟩ : ∃ v, u = v + 1 := ⟨u - 1, by omega⟩
                have HD4 : Hid ((v + k + 1 = s + k + 1 ∧ DivAt f (lf l) m (v + k) Q' R') ∨ (v + k + 1 < s + k + 1 ∧ DivAt f (lf l) m (v + k + 1) Q' R')) := Lib.hid (.inr ⟨by omega, by have := HD3.out; rwa [show v + 1 + k = v + k + 1 by omega] at this⟩)
                clear HD3
                go_wp2
                go_round
                case rel => exact ⟨v, v + k + 1, by go_num, rfl, by omega, HD4⟩
                case measure => simp [intOf] <;> omega
            · have ez : (R' (u + k) == 0) = false := by simp [hz]
              have HD3 : Hid (t < s + k + 1 ∧ DivAt f (lf l) m t Q' R') := Lib.hid (by
                rcases HD2.out with ⟨_, h⟩ | h
                · exact absurd (h.2.2.2.1 (u + k) (Nat.le_refl _)) hz
                · exact h)
              have hlt4 := HD3.out.1
              clear hz HD2
              go_wp2
              go_roundw
              case rel => exact ⟨u, t, Q', R', rfl, by omega, by omega, Lib.hid HD3.out.2, HZ', HOQ.out, HOR.out, hb⟩
              case measure => simp [intOf] <;> omega
    · have hd0 : decide ((0 : Int) ≤ sI) = false := decide_eq_false hs0
      have HP2 := Lib.hid (poly_own (u := wr) (by omega) hor (fun j _ => rfl) (Below.refl _ _))
      have hlt1 := hor.lt
      have HO := Lib.hid hoq
      clear hoq hor
      go_wp2_with fail
      refine HP2.out.mono ?_
      rintro e w2 ⟨g2, rfl, hg2, hO2, hB2⟩
      have HF := Lib.hid (HFIN.out wr w2 g2 n' Q R HD.out (by omega) hnn HZ.out (by omega) (HO.out.keep hB2) hO2 (below_up hb hB2 hb.size))
      clear hO2 HP2
      go_wp2
      (try rw [Exit.noGoto_ret])
      go_ret2
      exact HF.out
end Go.Proofs.YtmgggdibbhameabDoor
namespace Go.Proofs.YtmgggdibbhameabDoor
open Go.RowKit
theorem divide_c (f : Int) (a a2 : Option Addr) (l m : List Int) (cap cap2 : Nat) (w : World) (ht : Tab w) (h0 : 0 ≤ f) (h8 : f ≤ 8) (hn : l.length ≤ 4096) (hn2 : m.length ≤ 4096) (hz : m.length ≠ 0) (hl : Pol f l) (hm : Pol f m) (hs : Src w a l.length (lf l)) (hs2 : Src w a2 m.length (lf m)) :
    Calls Tryd.prog 100 #[.int .i64 f, .slice a l.length cap, .slice a2 m.length cap2] w (DivR f l m w) := by
  obtain ⟨k, hk⟩ : ∃ k, m.length = k + 1 := ⟨m.length - 1, by omega⟩
  rcases hs2 with h | ⟨b2, off2, rfl, hlt2, hc2⟩
  · exact absurd h hz
  · have hk2 : k + 1 ≤ 4096 := by omega
    rw [hk] at hc2
    have e : #[Value.int .i64 f, .slice a l.length cap, .slice (some ⟨b2, off2, none⟩) m.length cap2] = #[Value.int .i64 f, .slice a l.length cap, .slice (some ⟨b2, off2, none⟩) (k + 1) cap2] := by rw [hk]
    rw [e]
    rcases Nat.lt_trichotomy l.length k with h | h | h
    · exact divide_lt f a b2 off2 k l m cap cap2 w ht h0 h8 hn hk hk2 h hl hm hs hlt2 hc2
    · exact divide_eq f a b2 off2 k l m cap cap2 w ht h0 h8 hn hk hk2 (by omega) (by omega) hl hm hs hlt2 hc2
    · exact divide_ge f a b2 off2 k l m cap cap2 w ht h0 h8 hn hk hk2 (l.length - k) (by omega) (by omega) hl hm hs hlt2 hc2
set_option maxRecDepth 100000 in
theorem remainder_c (f : Int) (a a2 : Option Addr) (l m : List Int) (cap cap2 : Nat) (w : World) (ht : Tab w) (h0 : 0 ≤ f) (h8 : f ≤ 8) (hn : l.length ≤ 4096) (hn2 : m.length ≤ 4096) (hz : m.length ≠ 0) (hl : Pol f l) (hm : Pol f m) (hs : Src w a l.length (lf l)) (hs2 : Src w a2 m.length (lf m)) :
    Calls Tryd.prog 98 #[.int .i64 f, .slice a l.length cap, .slice a2 m.length cap2] w (OwnG w (remL f l m)) := by
  have HD := Lib.hid (divide_c f a a2 l m cap cap2 w ht h0 h8 hn hn2 hz hl hm hs hs2)
  have HU : Hid (∀ q r, DivP f l m q r → remL f l m = r) := Lib.hid fun q r h => remL_eq h0 h8 hm h.isRem
  clear hs hs2
  go_enter Tryd.func98, Tryd.ntmps98
  go_wp2_with fail
  refine HD.out.mono ?_
  rintro e w2 ⟨gq, gr, q, r, rfl, hdiv, h1, h2, h3, h4, hb⟩
  have HE := Lib.hid (HU.out q r hdiv)
  have HO := Lib.hid h4
  clear h3 h4 hdiv HU
  go_wp2
  go_ret
  exact ⟨gr, by rw [HE.out]; rfl, by omega, by rw [HE.out]; exact HO.out, hb⟩
/-- A row with room: the first n cells are known. -/
def OwnV (w : World) (g n cap : Nat) (F : Nat → Int) : Prop := ∃ V, w.rowIs g 3 cap V ∧ n ≤ cap ∧ ∀ j, j < n → V j = .int .i64 (F j)
theorem OwnV.cell {w : World} {g n cap : Nat} {F : Nat → Int} (h : OwnV w g n cap F) {j : Nat} (hj : j < n) : w.cell? ⟨g, j, none⟩ = some (.int .i64 (F j)) := by
  obtain ⟨V, h1, h2, h3⟩ := h
  rw [← h3 j hj]
  exact World.rowIs.cell h1 (by omega)
theorem OwnV.frozen {w : World} {g n cap : Nat} {F : Nat → Int} (h : OwnV w g n cap F) (j : Nat) : w.frozen? ⟨g, j, none⟩ = false := by
  obtain ⟨V, h1, h2, h3⟩ := h
  exact World.rowIs.frozen h1 j
theorem OwnV.lt {w : World} {g n cap : Nat} {F : Nat → Int} (h : OwnV w g n cap F) : g < w.heap.size := by
  obtain ⟨V, h1, _⟩ := h
  exact World.rowIs.lt h1
theorem OwnV.set {w : World} {g n cap s : Nat} {F : Nat → Int} {x : Int} (h : OwnV w g n cap F) : OwnV (w.setCell ⟨g, s, none⟩ (.int .i64 x)) g n cap (upd F s x) := by
  obtain ⟨V, h1, h2, h3⟩ := h
  refine ⟨_, World.rowIs.set h1 s (.int .i64 x), h2, fun j hj => ?_⟩
  unfold upd
  by_cases e : j = s
  · simp [e]
  · simp [e, h3 j hj]
theorem OwnV.other {w : World} {g g2 n cap s : Nat} {F : Nat → Int} {v : Value} (h : OwnV w g n cap F) (hne : g ≠ g2) : OwnV (w.setCell ⟨g2, s, none⟩ v) g n cap F := by
  obtain ⟨V, h1, h2, h3⟩ := h
  exact ⟨V, World.rowIs.setOther h1 (a := ⟨g2, s, none⟩) hne v, h2, h3⟩
theorem OwnV.keep {w w' : World} {g n cap : Nat} {F : Nat → Int} (h : OwnV w g n cap F) (hb : Below w.heap.size w w') : OwnV w' g n cap F := by
  obtain ⟨V, h1, h2, h3⟩ := h
  exact ⟨V, World.rowIs.of_block h1 (hb.block g (World.rowIs.lt h1)), h2, h3⟩
theorem OwnV.congr {w : World} {g n cap : Nat} {F G : Nat → Int} (h : OwnV w g n cap F) (e : ∀ j, j < n → F j = G j) : OwnV w g n cap G := by
  obtain ⟨V, h1, h2, h3⟩ := h
  exact ⟨V, h1, h2, fun j hj => by rw [h3 j hj, e j hj]⟩
theorem OwnV.src {w : World} {g n cap : Nat} {F : Nat → Int} (h : OwnV w g n cap F) : Src w (some ⟨g, 0, none⟩) n F :=
  .inr ⟨g, 0, rfl, h.lt, fun j hj => by rw [Nat.zero_add]; exact h.cell hj⟩
theorem OwnV.of_owns {w : World} {base n : Nat} {v : Value} {F : Nat → Int} (h : w.ownsRow base 3 1 v n (xsF F n)) (hn : n ≠ 0) : ∃ g cap, v = .slice (some ⟨g, 0, none⟩) n cap ∧ base ≤ g ∧ OwnV w g n cap F := by
  obtain ⟨hl, h⟩ := h
  rcases h with ⟨h1, h2⟩ | ⟨g, cap, cur, h1, hg, hh, hc, hm, hs, ht⟩
  · exact absurd h2 hn
  · refine ⟨g, cap, h1, hg, fun j => (cur[j]?).getD .nilIface, ⟨cur, hh, by omega, fun j hj => ?_⟩, hc, fun j hj => ?_⟩
    · have : j < cur.size := by omega
      simp [this]
    · have hx : (xsF F n)[j]? = some (.int .i64 (F j)) := by simp [xsF, hj]
      rw [← ht, List.getElem?_take_of_lt (by omega)] at hx
      have : cur[j]? = some (.int .i64 (F j)) := by simpa using hx
      show (cur[j]?).getD .nilIface = _
      rw [this]; rfl
end Go.Proofs.YtmgggdibbhameabDoor
namespace Go.Proofs.YtmgggdibbhameabDoor
open Go.RowKit
/-- The coefficients of an inverse so far. -/
def InvAt (f : Int) (A : Nat → Int) (w wr : World) (v : Value) (k : Nat) : Prop := ∃ O : Nat → Int, (∀ j, 0 ≤ O j ∧ O j < P f) ∧ IsInv (P f) k A O ∧ wr.ownsRow w.heap.size 3 1 v k (xsF O k) ∧ Below w.heap.size w wr
theorem xs_more (O : Nat → Int) (k : Nat) (x : Int) : xsF O k ++ [.int .i64 x] = xsF (more O k x) (k + 1) := by
  rw [← xsF_succ, xsF_congr (F := O) (G := more O k x) (fun j hj => (more_lo hj).symm), more_at]
theorem more_bd {p : Int} {O : Nat → Int} {k : Nat} {x : Int} (h : ∀ j, 0 ≤ O j ∧ O j < p) (hx : 0 ≤ x ∧ x < p) (j : Nat) : 0 ≤ more O k x j ∧ more O k x j < p := by
  unfold more
  split
  · exact h j
  · exact hx
set_option maxRecDepth 100000 in
set_option maxHeartbeats 3200000 in
theorem sInv_some (f : Int) (b off n cap : Nat) (A : Nat → Int) (w : World) (HT : Hid (∀ w2, Below w.heap.size w w2 → Calls Tryd.prog 35 #[.int .i64 f, .slice (some ⟨b, off, none⟩) n cap] w2 (SameB w2 true)))
    (hf : 0 ≤ f ∧ f ≤ 8) (n1 : 1 ≤ n) (hn : n ≤ 64) (hA0 : A 0 ≠ 0) (hAb : ∀ j, 0 ≤ A j ∧ A j < P f) (hlt : b < w.heap.size) (hc : ∀ j, j < n → w.cell? ⟨b, off + j, none⟩ = some (.int .i64 (A j))) :
    Calls Tryd.prog 55 #[.int .i64 f, .slice (some ⟨b, off, none⟩) n cap] w fun e w' => ∃ v, e = .returned (.tuple #[v, .bool true]) ∧ InvAt f A w w' v n := by
  have HC := Lib.hid hc
  have BA : Hid (∀ o, Below w.heap.size w (w.alloc o)) := Lib.hid fun o => (Below.refl _ _).alloc (Nat.le_refl _) o
  have HMU : Hid (∀ x y w, Calls Tryd.prog 41 #[.int .i64 f, .int .i64 x, .int .i64 y] w fun e w' => e = .returned (.int .i64 (RS (x * y) (P f))) ∧ w = w') := Lib.hid fun x y w => by have := sMul f x y w; rwa [mMul, if_pos hf] at this
  have HSU : Hid (∀ x y w, Calls Tryd.prog 44 #[.int .i64 f, .int .i64 x, .int .i64 y] w fun e w' => e = .returned (.int .i64 (RS (x - y) (P f))) ∧ w = w') := Lib.hid fun x y w => by have := sSub f x y w; rwa [mSub, if_pos hf] at this
  have hp := P_bd hf.1 hf.2
  have hz : A 0 % P f ≠ 0 := by rw [Int.emod_eq_of_lt (hAb 0).1 (hAb 0).2]; exact hA0
  have HST : Hid (∀ (O : Nat → Int) (k : Nat), IsInv (P f) k A O → IsInv (P f) (k + 1) A (more O k (RS (RS (oneS k - ipar A O k k) (P f) * mPower f (A 0) (-1)) (P f)))) := Lib.hid fun O k h => inv_more hf.1 hf.2 hz h
  have HBD : Hid (∀ x, 0 ≤ RS x (P f) ∧ RS x (P f) < P f) := Lib.hid fun x => RS_bd (by omega)
  have HIN := Lib.hid (sInverse f (A 0))
  have z0 : (A 0 == 0) = false := by rw [beq_eq_false_iff_ne]; exact hA0
  have H10 : Hid ((1 : Int) = RS (oneS 0 - ipar A (fun _ => 0) 0 0) (P f)) := Lib.hid (by
    show (1 : Int) = RS (1 - 0) (P f)
    unfold RS
    rw [Int.emod_eq_of_lt (by omega) (by omega)]
    rfl)
  obtain ⟨i0, hi, hz0, hz1, hz2⟩ := info_parts info3
  have HI := Lib.hid hi
  have HZ0 := Lib.hid hz0
  have HZ1 := Lib.hid hz1
  have HZ2 := Lib.hid hz2
  have c00 : ∀ w2, Below w.heap.size w w2 → w2.cell? ⟨b, off, none⟩ = some (.int .i64 (A 0)) := fun w2 hb => (hb.cell (p := ⟨b, off, none⟩) hlt).trans (by have := hc 0 (by omega); rwa [Nat.add_zero] at this)
  have HC0 := Lib.hid c00
  clear hi hz0 hz1 hz2 hc hf hA0 hAb hz c00
  have n0 : (0 : Int) < (n : Int) := by omega
  have cA := HC0.out _ (BA.out (.cells #[] 3))
  generalize mPower f (A 0) (-1) = V at *
  go_enter Tryd.func55, Tryd.ntmps55
  go_wp2_with fail
  refine (HT.out _ (BA.out _)).mono ?_
  rintro e w' ⟨rfl, rfl⟩
  clear HT
  go_wp2_with fail
  refine (HIN.out _).mono ?_
  rintro e w' ⟨rfl, rfl⟩
  clear HIN cA
  go_wp2_with fail
  go_loopw [6, 8, 9, 10] (fun v i _ _ wr => ∃ k : Nat, i = .int .i64 k ∧ k ≤ n ∧ InvAt f A w wr v k) (fun _ i _ _ _ => n - (intOf i).toNat)
  case atStart => exact ⟨0, rfl, Nat.zero_le _, fun _ => 0, fun _ => by show (0 : Int) ≤ 0 ∧ (0 : Int) < P f; omega, fun i hi => by omega, own_empty w _, BA.out _⟩
  case round =>
    obtain ⟨k, rfl, hk, O, hO, hinv, hown, hnx⟩ := hrel
    have HO := Lib.hid hO
    have HINV := Lib.hid hinv
    clear hO hinv
    by_cases h1 : k < n
    · have hd1 : decide ((k : Int) < (n : Int)) = true := decide_eq_true (by omega)
      have hs := hnx.size
      by_cases hk0 : k = 0
      · subst hk0
        have HE : Hid (RS (1 * V) (P f) = RS (RS (oneS 0 - ipar A O 0 0) (P f) * V) (P f)) := Lib.hid (by rw [H10.out]; rfl)
        have HST2 := Lib.hid (HST.out O 0 HINV.out)
        rw [← HE.out] at HST2
        go_wp2_with fail
        refine wp_loop_rounds 1 ?_
        rw [rounds_succ]
        go_wp2_with fail
        refine (HMU.out _ _ wr).mono ?_
        rintro e w' ⟨rfl, rfl⟩
        have hx := HBD.out (1 * V)
        generalize RS (1 * V) (P f) = X at *
        go_wp2_with (at_builtin; refine wpList_append_own _ rfl _ _ 22 rfl w.heap.size 3 i0 (.int .i64 0) 1 8 Tryd.underlying22 HI.out HZ0.out HZ1.out HZ2.out rfl (by decide) _ _ _ rfl (hown.alloc _) ⟨wr.heap.size, 0, none⟩ 1 1 [.int .i64 X] rfl rfl ?d1 ?d2 ?d3 ?d4 ?d5 ?_)
        case d1 => exact cell_one_new _ _ _
        case d2 => intro u hu; simp at hu; subst hu; rfl
        case d3 => unfold maxLen; omega
        case d4 => omega
        case d5 => simp; omega
        intro v' w1 hown' hgrow _
        have hbel : Below w.heap.size w w1 := (hnx.alloc hs _).grown hgrow (by simp; omega) (own_ge hown)
        rw [xs_more O 0 X] at hown'
        have HREL : Hid (InvAt f A w w1 v' (0 + 1)) := Lib.hid ⟨_, more_bd HO.out hx, HST2.out, hown', hbel⟩
        clear hgrow hown hown' HST2
        go_wp2
        go_roundw
        case rel => exact ⟨1, rfl, by omega, HREL.out⟩
        case measure => simp [intOf]; omega
      · have dk : ((k : Int) == 0) = false := by rw [beq_eq_false_iff_ne]; omega
        obtain ⟨g, capo, rfl, hg, hov⟩ := OwnV.of_owns hown hk0
        have HOV := Lib.hid hov
        have HOWN := Lib.hid hown
        have H0 : Hid ((0 : Int) = RS (oneS k - ipar A O k 0) (P f)) := Lib.hid (by
          have e : oneS k = 0 := if_neg hk0
          rw [e]
          show (0 : Int) = RS (0 - 0) (P f)
          simp [RS])
        clear hov hown
        go_wp2_with fail
        go_loopw [9, 10] (fun s j wr2 => ∃ i : Nat, j = .int .i64 ((i + 1 : Nat) : Int) ∧ i ≤ k ∧ s = .int .i64 (RS (oneS k - ipar A O k i) (P f)) ∧ ∃ q, wr2 = wr.drewN q) (fun _ j _ => k + 1 - (intOf j).toNat)
        case atStart => exact ⟨0, rfl, Nat.zero_le _, vint H0.out, 0, rfl⟩
        case round =>
          clear H0
          obtain ⟨i, rfl, hik, rfl, q, rfl⟩ := hrel
          have hbq := below_drewN hnx q
          by_cases h2 : i + 1 ≤ k
          · have hd2 : decide (((i + 1 : Nat) : Int) ≤ k) = true := decide_eq_true (by omega)
            have hd3 : decide ((i : Int) + 1 ≤ k) = true := decide_eq_true (by omega)
            have d1 : wr.cell? ⟨b, off + (i + 1), none⟩ = some (.int .i64 (A (i + 1))) := (hnx.cell (p := ⟨b, off + (i + 1), none⟩) hlt).trans (HC.out (i + 1) (by omega))
            have d2 := HOV.out.cell (show k - (i + 1) < k by omega)
            have HS := Lib.hid (ipar_rs (A := A) (O := O) (k := k) (i := i) (p := P f) (d := oneS k))
            have q1 : IntKind.i64.wrap ((k : Int) - ((i : Int) + 1)) = (k : Int) - ((i : Int) + 1) := IntWalk.i64_in _ (by omega)
            have q2 : ((k : Int) - ((i : Int) + 1)).toNat = k - (i + 1) := by omega
            have q3 : (0 : Int) ≤ (k : Int) - ((i : Int) + 1) := by omega
            have q4 : (k : Int) - ((i : Int) + 1) < k := by omega
            have q7 : (i : Int) + 1 < n := by omega
            have q8 : (i : Int) + 1 ≤ k := by omega
            have q9 : (0 : Int) < (i : Int) + 1 := by omega
            generalize RS (oneS k - ipar A O k i) (P f) = X at *
            have HMk : Hid (∀ p2 x y, Calls Tryd.prog 41 #[.int .i64 f, .int .i64 x, .int .i64 y] (wr.drewN (q + p2)) fun e w' => e = .returned (.int .i64 (RS (x * y) (P f))) ∧ ∃ n, w' = wr.drewN (q + n)) := Lib.hid fun p2 x y => (HMU.out x y _).mono fun _ _ h => ⟨h.1, p2, h.2.symm⟩
            have HAk : Hid (∀ p2 x y, Calls Tryd.prog 44 #[.int .i64 f, .int .i64 x, .int .i64 y] (wr.drewN (q + p2)) fun e w' => e = .returned (.int .i64 (RS (x - y) (P f))) ∧ ∃ n, w' = wr.drewN (q + n)) := Lib.hid fun p2 x y => (HSU.out x y _).mono fun _ _ h => ⟨h.1, p2, h.2.symm⟩
            go_wp2
            go_quiet ((first | (go_at_call 41; exact HMk.out _ _ _) | (go_at_call 44; exact HAk.out _ _ _)))
            go_wp2
            go_roundw
            case rel => exact ⟨i + 1, by go_num, by omega, vint HS.out, _, rfl⟩
            case measure => simp [intOf]; omega
          · have hd2 : decide (((i + 1 : Nat) : Int) ≤ k) = false := decide_eq_false (by omega)
            have hd3 : decide ((i : Int) + 1 ≤ k) = false := decide_eq_false (by omega)
            obtain rfl : i = k := by omega
            have HST2 := Lib.hid (HST.out O i HINV.out)
            have hown : (wr.drewN q).ownsRow w.heap.size 3 1 (.slice (some ⟨g, 0, none⟩) i capo) i (xsF O i) := HOWN.out
            have hs2 := hbq.size
            go_wp2_with fail
            refine (HMU.out _ _ (wr.drewN q)).mono ?_
            rintro e w' ⟨rfl, rfl⟩
            have hx := HBD.out (RS (oneS i - ipar A O i i) (P f) * V)
            generalize RS (RS (oneS i - ipar A O i i) (P f) * V) (P f) = X at *
            go_wp2_with (at_builtin; refine wpList_append_own _ rfl _ _ 22 rfl w.heap.size 3 i0 (.int .i64 0) 1 8 Tryd.underlying22 HI.out HZ0.out HZ1.out HZ2.out rfl (by decide) _ _ _ rfl (hown.alloc _) ⟨(wr.drewN q).heap.size, 0, none⟩ 1 1 [.int .i64 X] rfl rfl ?e1 ?e2 ?e3 ?e4 ?e5 ?_)
            case e1 => exact cell_one_new _ _ _
            case e2 => intro u hu; simp at hu; subst hu; rfl
            case e3 => unfold maxLen; omega
            case e4 => omega
            case e5 => simp; omega
            intro v' w1 hown' hgrow _
            have hbel : Below w.heap.size w w1 := (hbq.alloc hs2 _).grown hgrow (by simp; omega) (own_ge hown)
            rw [xs_more O i X] at hown'
            have HREL : Hid (InvAt f A w w1 v' (i + 1)) := Lib.hid ⟨_, more_bd HO.out hx, HST2.out, hown', hbel⟩
            clear hgrow hown hown' HST2 HOWN HOV
            go_wp2
            go_roundw
            case rel => exact ⟨i + 1, by go_num, by omega, HREL.out⟩
            case measure => simp [intOf]; omega
    · have hd : decide ((k : Int) < (n : Int)) = false := decide_eq_false (by omega)
      obtain rfl : k = n := by omega
      have HREL : Hid (InvAt f A w wr _ k) := Lib.hid ⟨O, HO.out, HINV.out, hown, hnx⟩
      clear hown
      go_wp2
      go_ret2
      exact ⟨_, rfl, HREL.out⟩
end Go.Proofs.YtmgggdibbhameabDoor
namespace Go.Proofs.YtmgggdibbhameabDoor
open Go.RowKit
theorem InvAt.list {f : Int} {a : List Int} {w w' : World} {v : Value} (ha : SerOk f a) (h : InvAt f (lf a) w w' v a.length) : ∃ x c, v = .slice x (invL f a).length c ∧ Src w' x (invL f a).length (lf (invL f a)) ∧ Below w.heap.size w w' ∧ QInv f a (invL f a) := by
  obtain ⟨O, hO, hinv, hown, hb⟩ := h
  have hp := P_bd ha.1.1 ha.1.2
  have hq : QInv f a (tab a.length O) := ⟨tab_ser (by omega) hO, inv_tab hinv⟩
  rw [invL_eq hq]
  obtain ⟨x, c, hv, hS, hB⟩ := (owns_to (w := w) (l := tab a.length O) hown (tab_len _ _).symm (fun j hj => by rw [lf_tab, if_pos hj]) hb).list
  exact ⟨x, c, Ending.returned.inj hv, hS, hB, hq⟩
theorem sSeriesInv_on (f : Int) (a : Option Addr) (l : List Int) (cap : Nat) (w : World) (hs : Src w a l.length (lf l)) (h : InvOk f l) : Calls Tryd.prog 55 #[.int .i64 f, .slice a l.length cap] w fun e w' => ListLB w (invL f l) true e w' ∧ QInv f l (invL f l) := by
  have h1 := h.1.2.1
  have R : Hid (∀ w2, Below w.heap.size w w2 → Calls Tryd.prog 35 #[.int .i64 f, .slice a l.length cap] w2 (SameB w2 true)) := Lib.hid fun w2 hb => by
    have := sSeriesOk f a l cap w2 (by omega) (hs.keep hb)
    rwa [sok_iff.2 h.1] at this
  rcases hs with hz | ⟨b, off, rfl, hlt, hc⟩
  · omega
  refine (sInv_some f b off l.length cap (lf l) w R h.1.1 h1.1 h1.2 h.2 h.1.all hlt hc).mono fun e w' hp => ?_
  obtain ⟨v, rfl, hi⟩ := hp
  obtain ⟨x, c, rfl, hS, hB, hq⟩ := hi.list h.1
  exact ⟨⟨x, c, rfl, hS, hB⟩, hq⟩
set_option maxRecDepth 100000 in
set_option maxHeartbeats 1600000 in
theorem sSeriesLog (f : Int) (a : Option Addr) (l : List Int) (cap : Nat) (w : World) (hn : l.length ≤ 1048576) (hs : Src w a l.length (lf l)) : Calls Tryd.prog 25 #[.int .i64 f, .slice a l.length cap] w (ListLB w (mSeriesLog0 f l) (mSeriesLog1 f l)) := by
  have R := sShort f a l cap w hn hs
  by_cases h : LogOk f l
  · rw [show mSeriesLog0 f l = logL f l by unfold mSeriesLog0; rw [if_pos h], show mSeriesLog1 f l = true by unfold mSeriesLog1; simp [h]]
    rw [short_iff.2 h.1] at R
    have n1 := h.1.1.2.1
    have hf := h.1.1.1
    have hp := P_bd hf.1 hf.2
    have hi : InvOk f l := ⟨h.1.1, by rw [h.2]; omega⟩
    have RI := Lib.hid (sSeriesInv_on f a l cap w hs hi)
    have RD : Hid (∀ W, Below w.heap.size w W → Calls Tryd.prog 57 #[.int .i64 f, .slice a l.length cap] W (OwnsL W (sdiffL f l))) := Lib.hid fun W hb => sSeriesDiff_on f a l cap W (hs.keep hb) h.1.1
    have ld : (sdiffL f l).length = l.length := elL_len _ _ _
    have hsd : Ser f l.length (sdiffL f l) := elL_ser hf.1 hf.2 _ _
    have RM : Hid (∀ x c y d W, QInv f l (invL f l) → Src W x (sdiffL f l).length (lf (sdiffL f l)) → Src W y (invL f l).length (lf (invL f l)) → Calls Tryd.prog 48 #[.int .i64 f, .slice x (sdiffL f l).length c, .slice y (invL f l).length d] W (OwnsL W (smulL f (sdiffL f l) (invL f l)))) := Lib.hid fun x c y d W hq h1 h2 => sSeriesMul_on f x _ c y _ d W h1 h2 ⟨by rw [ld, hq.1.1], hsd.ok hf n1.1 n1.2, hq.1.ok hf n1.1 n1.2⟩
    have lm : (smulL f (sdiffL f l) (invL f l)).length = l.length := (elL_len _ _ _).trans ld
    have hsm : Ser f l.length (smulL f (sdiffL f l) (invL f l)) := by
      have : Ser f (sdiffL f l).length (smulL f (sdiffL f l) (invL f l)) := elL_ser hf.1 hf.2 _ _
      rwa [ld] at this
    have RS5 : Hid (∀ x c W, Src W x (smulL f (sdiffL f l) (invL f l)).length (lf (smulL f (sdiffL f l) (invL f l))) → Calls Tryd.prog 56 #[.int .i64 f, .slice x (smulL f (sdiffL f l) (invL f l)).length c] W (ListLB W (ssumL f (smulL f (sdiffL f l) (invL f l))) true)) := Lib.hid fun x c W h1 => sSeriesSum_on f x _ c W h1 ⟨hsm.ok hf n1.1 n1.2, by rw [lm]; exact h.1.2⟩
    have HE : Hid (QInv f l (invL f l) → ssumL f (smulL f (sdiffL f l) (invL f l)) = logL f l) := Lib.hid fun hq => (logL_eq h.1 h.2 (log_of h.1 hq)).symm
    have c1 : lf l 0 = 1 := h.2
    rcases hs with hq | ⟨b, off, rfl, hlt, hc⟩
    · omega
    have cA : w.cell? ⟨b, off, none⟩ = some (.int .i64 1) := by have := hc 0 (by omega); rwa [Nat.add_zero, c1] at this
    have n0 : (0 : Int) < (l.length : Int) := by omega
    clear h hi hc hsd hsm ld lm c1
    generalize ssumL f (smulL f (sdiffL f l) (invL f l)) = SS at *
    generalize smulL f (sdiffL f l) (invL f l) = SM at *
    generalize sdiffL f l = SD at *
    go_enter Tryd.func25, Tryd.ntmps25
    go_wp2_with fail
    refine R.mono ?_
    rintro e w' ⟨rfl, rfl⟩
    go_wp2_with fail
    refine RI.out.mono ?_
    rintro e w1 ⟨⟨x1, k1, rfl, s1, b1⟩, hq⟩
    have HQ := Lib.hid hq
    clear hq
    go_wp2_with fail
    refine (RD.out w1 b1).mono ?_
    intro e w2 ho2
    obtain ⟨x2, k2, rfl, s2, b2⟩ := ho2.list
    have s12 := s1.keep b2
    have b3 := below_up b1 b2 b1.size
    clear ho2 s1 b1 b2
    go_wp2_with fail
    refine (RM.out x2 k2 x1 k1 w2 HQ.out s2 s12).mono ?_
    intro e w4 ho4
    obtain ⟨x4, k4, rfl, s4, b4⟩ := ho4.list
    have b5 := below_up b3 b4 b3.size
    clear ho4 s2 s12 b3 b4
    go_wp2_with fail
    refine (RS5.out x4 k4 w4 s4).mono ?_
    rintro e w6 ⟨x6, k6, rfl, s6, b6⟩
    have b7 := below_up b5 b6 b5.size
    have HS6 := Lib.hid s6
    have HEQ := Lib.hid (HE.out HQ.out)
    clear s4 s6 b5 b6
    go_wp2
    go_ret2
    rw [← HEQ.out]
    exact ⟨x6, k6, rfl, HS6.out, b7⟩
  · rw [show mSeriesLog0 f l = [] by unfold mSeriesLog0; rw [if_neg h], show mSeriesLog1 f l = false by unfold mSeriesLog1; simp [h]]
    by_cases h1 : ShortOk f l
    · rw [short_iff.2 h1] at R
      have n1 := h1.1.2.1
      have hne : lf l 0 ≠ 1 := fun hz => h ⟨h1, hz⟩
      have dz : (lf l 0 != 1) = true := by rw [bne_iff_ne]; exact hne
      rcases hs with hq | ⟨b, off, rfl, hlt, hc⟩
      · omega
      have cA : w.cell? ⟨b, off, none⟩ = some (.int .i64 (lf l 0)) := by have := hc 0 (by omega); rwa [Nat.add_zero] at this
      have n0 : (0 : Int) < (l.length : Int) := by omega
      clear h h1 hc hne
      go_enter Tryd.func25, Tryd.ntmps25
      go_wp2_with fail
      refine R.mono ?_
      rintro e w' ⟨rfl, rfl⟩
      go_wp2
      go_ret2
      exact ⟨none, 0, rfl, .inl rfl, Below.refl _ _⟩
    · rw [short_not.2 h1] at R
      clear h h1 hs
      go_enter Tryd.func25, Tryd.ntmps25
      go_wp2_with fail
      refine R.mono ?_
      rintro e w' ⟨rfl, rfl⟩
      go_wp2
      go_ret2
      exact ⟨none, 0, rfl, .inl rfl, Below.refl _ _⟩
end Go.Proofs.YtmgggdibbhameabDoor
namespace Go.Proofs.YtmgggdibbhameabDoor
open Go.RowKit
theorem log_start (p : Int) (A : Nat → Int) : IsLog p 1 A oneS := by
  intro i hi
  obtain rfl : i = 0 := by omega
  show (((0 : Nat) : Int) * oneS 0) % p = cv 0 (thS A) oneS % p
  rw [cv_ipar]
  show (((0 : Nat) : Int) * oneS 0) % p = (((0 : Nat) : Int) * A 0 * oneS 0 + 0) % p
  simp
theorem one_bd {f : Int} (h0 : 0 ≤ f) (h8 : f ≤ 8) (j : Nat) : 0 ≤ oneS j ∧ oneS j < P f := by
  have := P_bd h0 h8
  show 0 ≤ (if j = 0 then (1 : Int) else 0) ∧ (if j = 0 then (1 : Int) else 0) < P f
  split <;> omega
/-- The coefficients of an exponential so far. -/
def ExpAt (f : Int) (A : Nat → Int) (w wr : World) (v : Value) (k : Nat) : Prop := ∃ O : Nat → Int, (∀ j, 0 ≤ O j ∧ O j < P f) ∧ (IsLog (P f) k A O ∧ O 0 = 1) ∧ wr.ownsRow w.heap.size 3 1 v k (xsF O k) ∧ Below w.heap.size w wr
theorem own_one (w : World) : (w.alloc (.cells #[.int .i64 1] 3)).ownsRow w.heap.size 3 1 (.slice (some ⟨w.heap.size, 0, none⟩) 1 1) 1 (xsF oneS 1) := own_new w (.int .i64 1) 3
set_option maxRecDepth 100000 in
set_option maxHeartbeats 3200000 in
theorem sExp_some (f : Int) (b off n cap : Nat) (A : Nat → Int) (w : World) (HT : Hid (Calls Tryd.prog 54 #[.int .i64 f, .slice (some ⟨b, off, none⟩) n cap] w (SameB w true)))
    (hf : 0 ≤ f ∧ f ≤ 8) (n1 : 1 ≤ n) (hn : n ≤ 64) (hnp : (n : Int) ≤ P f) (hA0 : A 0 = 0) (hlt : b < w.heap.size) (hc : ∀ j, j < n → w.cell? ⟨b, off + j, none⟩ = some (.int .i64 (A j))) :
    Calls Tryd.prog 30 #[.int .i64 f, .slice (some ⟨b, off, none⟩) n cap] w fun e w' => ∃ v, e = .returned (.tuple #[v, .bool true]) ∧ ExpAt f A w w' v n := by
  have HC := Lib.hid hc
  have BA : Hid (∀ o, Below w.heap.size w (w.alloc o)) := Lib.hid fun o => (Below.refl _ _).alloc (Nat.le_refl _) o
  have HMU : Hid (∀ x y w, Calls Tryd.prog 41 #[.int .i64 f, .int .i64 x, .int .i64 y] w fun e w' => e = .returned (.int .i64 (RS (x * y) (P f))) ∧ w = w') := Lib.hid fun x y w => by have := sMul f x y w; rwa [mMul, if_pos hf] at this
  have HSU : Hid (∀ x y w, Calls Tryd.prog 33 #[.int .i64 f, .int .i64 x, .int .i64 y] w fun e w' => e = .returned (.int .i64 (RS (x + y) (P f))) ∧ w = w') := Lib.hid fun x y w => by have := sAdd f x y w; rwa [mAdd, if_pos hf] at this
  have hp := P_bd hf.1 hf.2
  have HST : Hid (∀ (O : Nat → Int) (k : Nat), k ≠ 0 → k < n → IsLog (P f) k A O ∧ O 0 = 1 → IsLog (P f) (k + 1) A (more O k (RS (RS (ipar (thS A) O k k) (P f) * mPower f (k : Int) (-1)) (P f))) ∧ more O k (RS (RS (ipar (thS A) O k k) (P f) * mPower f (k : Int) (-1)) (P f)) 0 = 1) := Lib.hid fun O k k0 hk h => ⟨exp_more hf.1 hf.2 k0 (place_ne hnp k0 hk) h.1, by rw [more_lo (by omega)]; exact h.2⟩
  have HBD : Hid (∀ x, 0 ≤ RS x (P f) ∧ RS x (P f) < P f) := Lib.hid fun x => RS_bd (by omega)
  have HIN : Hid (∀ (x : Int) (w : World), Calls Tryd.prog 43 #[.int .i64 f, .int .i64 x] w fun e w' => e = .returned (.int .i64 (mPower f x (-1))) ∧ w = w') := Lib.hid fun x w => sInverse f x w
  have H1 : Hid (ExpAt f A w (w.alloc (.cells #[.int .i64 1] 3)) (.slice (some ⟨w.heap.size, 0, none⟩) 1 1) 1) := Lib.hid ⟨oneS, one_bd hf.1 hf.2, ⟨log_start _ _, rfl⟩, own_one w, BA.out _⟩
  obtain ⟨i0, hi, hz0, hz1, hz2⟩ := info_parts info3
  have HI := Lib.hid hi
  have HZ0 := Lib.hid hz0
  have HZ1 := Lib.hid hz1
  have HZ2 := Lib.hid hz2
  have cA : w.cell? ⟨b, off, none⟩ = some (.int .i64 0) := by have := hc 0 (by omega); rwa [Nat.add_zero, hA0] at this
  clear hi hz0 hz1 hz2 hc hf hA0 hnp
  have n0 : (0 : Int) < (n : Int) := by omega
  go_enter Tryd.func30, Tryd.ntmps30
  go_wp2_with fail
  refine HT.out.mono ?_
  rintro e w' ⟨rfl, rfl⟩
  clear HT
  go_wp2_with fail
  go_loopw [6, 7, 8, 9] (fun v i _ _ wr => ∃ k : Nat, i = .int .i64 k ∧ 1 ≤ k ∧ k ≤ n ∧ ExpAt f A w wr v k) (fun _ i _ _ _ => n - (intOf i).toNat)
  case atStart => exact ⟨1, rfl, Nat.le_refl _, n1, H1.out⟩
  case round =>
    clear H1 cA
    obtain ⟨k, rfl, hk1, hk, O, hO, hinv, hown, hnx⟩ := hrel
    have HO := Lib.hid hO
    have HINV := Lib.hid hinv
    clear hO hinv
    by_cases h1 : k < n
    · have hd1 : decide ((k : Int) < (n : Int)) = true := decide_eq_true (by omega)
      have hs := hnx.size
      obtain ⟨g, capo, rfl, hg, hov⟩ := OwnV.of_owns hown (show k ≠ 0 by omega)
      have HOV := Lib.hid hov
      have HOWN := Lib.hid hown
      have H0 : Hid ((0 : Int) = RS (ipar (thS A) O k 0) (P f)) := Lib.hid (by
        show (0 : Int) = RS 0 (P f)
        simp [RS])
      clear hov hown
      go_wp2_with fail
      go_loopw [8, 9] (fun s j wr2 => ∃ i : Nat, j = .int .i64 ((i + 1 : Nat) : Int) ∧ i ≤ k ∧ s = .int .i64 (RS (ipar (thS A) O k i) (P f)) ∧ ∃ q, wr2 = wr.drewN q) (fun _ j _ => k + 1 - (intOf j).toNat)
      case atStart => exact ⟨0, rfl, Nat.zero_le _, vint H0.out, 0, rfl⟩
      case round =>
        clear H0
        obtain ⟨i, rfl, hik, rfl, q, rfl⟩ := hrel
        have hbq := below_drewN hnx q
        by_cases h2 : i + 1 ≤ k
        · have hd2 : decide (((i + 1 : Nat) : Int) ≤ k) = true := decide_eq_true (by omega)
          have hd3 : decide ((i : Int) + 1 ≤ k) = true := decide_eq_true (by omega)
          have d1 : wr.cell? ⟨b, off + (i + 1), none⟩ = some (.int .i64 (A (i + 1))) := (hnx.cell (p := ⟨b, off + (i + 1), none⟩) hlt).trans (HC.out (i + 1) (by omega))
          have d2 := HOV.out.cell (show k - (i + 1) < k by omega)
          have HS := Lib.hid (th_rs (A := A) (O := O) (k := k) (i := i) (p := P f))
          have q1 : IntKind.i64.wrap ((k : Int) - ((i : Int) + 1)) = (k : Int) - ((i : Int) + 1) := IntWalk.i64_in _ (by omega)
          have q2 : ((k : Int) - ((i : Int) + 1)).toNat = k - (i + 1) := by omega
          have q3 : (0 : Int) ≤ (k : Int) - ((i : Int) + 1) := by omega
          have q4 : (k : Int) - ((i : Int) + 1) < k := by omega
          have q7 : (i : Int) + 1 < n := by omega
          have q8 : (i : Int) + 1 ≤ k := by omega
          have q9 : (0 : Int) < (i : Int) + 1 := by omega
          generalize RS (ipar (thS A) O k i) (P f) = X at *
          have HMk : Hid (∀ p2 x y, Calls Tryd.prog 41 #[.int .i64 f, .int .i64 x, .int .i64 y] (wr.drewN (q + p2)) fun e w' => e = .returned (.int .i64 (RS (x * y) (P f))) ∧ ∃ n, w' = wr.drewN (q + n)) := Lib.hid fun p2 x y => (HMU.out x y _).mono fun _ _ h => ⟨h.1, p2, h.2.symm⟩
          have HAk : Hid (∀ p2 x y, Calls Tryd.prog 33 #[.int .i64 f, .int .i64 x, .int .i64 y] (wr.drewN (q + p2)) fun e w' => e = .returned (.int .i64 (RS (x + y) (P f))) ∧ ∃ n, w' = wr.drewN (q + n)) := Lib.hid fun p2 x y => (HSU.out x y _).mono fun _ _ h => ⟨h.1, p2, h.2.symm⟩
          go_wp2
          go_quiet ((first | (go_at_call 41; exact HMk.out _ _ _) | (go_at_call 33; exact HAk.out _ _ _)))
          go_wp2
          go_roundw
          case rel => exact ⟨i + 1, by go_num, by omega, vint HS.out, _, rfl⟩
          case measure => simp [intOf]; omega
        · have hd2 : decide (((i + 1 : Nat) : Int) ≤ k) = false := decide_eq_false (by omega)
          have hd3 : decide ((i : Int) + 1 ≤ k) = false := decide_eq_false (by omega)
          obtain rfl : i = k := by omega
          have HST2 := Lib.hid (HST.out O i (by omega) h1 HINV.out)
          have hown : (wr.drewN q).ownsRow w.heap.size 3 1 (.slice (some ⟨g, 0, none⟩) i capo) i (xsF O i) := HOWN.out
          have hs2 := hbq.size
          go_wp2_with fail
          refine (HIN.out _ (wr.drewN q)).mono ?_
          rintro e w' ⟨rfl, rfl⟩
          go_wp2_with fail
          refine (HMU.out _ _ (wr.drewN q)).mono ?_
          rintro e w' ⟨rfl, rfl⟩
          have hx := HBD.out (RS (ipar (thS A) O i i) (P f) * mPower f (i : Int) (-1))
          generalize RS (RS (ipar (thS A) O i i) (P f) * mPower f (i : Int) (-1)) (P f) = X at *
          go_wp2_with (at_builtin; refine wpList_append_own _ rfl _ _ 22 rfl w.heap.size 3 i0 (.int .i64 0) 1 8 Tryd.underlying22 HI.out HZ0.out HZ1.out HZ2.out rfl (by decide) _ _ _ rfl (hown.alloc _) ⟨(wr.drewN q).heap.size, 0, none⟩ 1 1 [.int .i64 X] rfl rfl ?e1 ?e2 ?e3 ?e4 ?e5 ?_)
          case e1 => exact cell_one_new _ _ _
          case e2 => intro u hu; simp at hu; subst hu; rfl
          case e3 => unfold maxLen; omega
          case e4 => omega
          case e5 => simp; omega
          intro v' w1 hown' hgrow _
          have hbel : Below w.heap.size w w1 := (hbq.alloc hs2 _).grown hgrow (by simp; omega) (own_ge hown)
          rw [xs_more O i X] at hown'
          have HREL : Hid (ExpAt f A w w1 v' (i + 1)) := Lib.hid ⟨_, more_bd HO.out hx, HST2.out, hown', hbel⟩
          clear hgrow hown hown' HST2 HOWN HOV
          go_wp2
          go_roundw
          case rel => exact ⟨i + 1, by go_num, by omega, by omega, HREL.out⟩
          case measure => simp [intOf]; omega
    · have hd : decide ((k : Int) < (n : Int)) = false := decide_eq_false (by omega)
      obtain rfl : k = n := by omega
      have HREL : Hid (ExpAt f A w wr _ k) := Lib.hid ⟨O, HO.out, HINV.out, hown, hnx⟩
      clear hown
      go_wp2
      go_ret2
      exact ⟨_, rfl, HREL.out⟩
theorem log_tab {p : Int} {n : Nat} {A O : Nat → Int} (h : IsLog p n A O) : IsLog p n A (lf (tab n O)) := by
  intro i hi
  have e : cv i (thS A) (lf (tab n O)) = cv i (thS A) O := cv_congr (fun _ _ => rfl) (fun j hj => by rw [lf_tab, if_pos (by omega)])
  show ((i : Int) * lf (tab n O) i) % p = cv i (thS A) (lf (tab n O)) % p
  rw [e, lf_tab, if_pos hi]
  exact h i hi
theorem ExpAt.list {f : Int} {a : List Int} {w w' : World} {v : Value} (ha : ShortOk f a) (h : ExpAt f (lf a) w w' v a.length) : ∃ x c, v = .slice x (expL f a).length c ∧ Src w' x (expL f a).length (lf (expL f a)) ∧ Below w.heap.size w w' ∧ QExp f a (expL f a) := by
  obtain ⟨O, hO, hinv, hown, hb⟩ := h
  have hp := P_bd ha.1.1.1 ha.1.1.2
  have n1 := ha.1.2.1
  have hq : QExp f a (tab a.length O) := ⟨tab_ser (by omega) hO, by rw [lf_tab, if_pos (by omega)]; exact hinv.2, log_tab hinv.1⟩
  rw [expL_eq ha hq]
  obtain ⟨x, c, hv, hS, hB⟩ := (owns_to (w := w) (l := tab a.length O) hown (tab_len _ _).symm (fun j hj => by rw [lf_tab, if_pos hj]) hb).list
  exact ⟨x, c, Ending.returned.inj hv, hS, hB, hq⟩
set_option maxRecDepth 100000 in
set_option maxHeartbeats 1600000 in
theorem sSeriesExp (f : Int) (a : Option Addr) (l : List Int) (cap : Nat) (w : World) (hn : l.length ≤ 1048576) (hs : Src w a l.length (lf l)) : Calls Tryd.prog 30 #[.int .i64 f, .slice a l.length cap] w (ListLB w (mSeriesExp0 f l) (mSeriesExp1 f l)) := by
  have R := sShort f a l cap w hn hs
  by_cases h : ExpOk f l
  · rw [show mSeriesExp0 f l = expL f l by unfold mSeriesExp0; rw [if_pos h], show mSeriesExp1 f l = true by unfold mSeriesExp1; simp [h]]
    rw [short_iff.2 h.1] at R
    have n1 := h.1.1.2.1
    rcases hs with hq | ⟨b, off, rfl, hlt, hc⟩
    · omega
    refine (sExp_some f b off l.length cap (lf l) w (Lib.hid R) h.1.1.1 n1.1 n1.2 h.1.2 h.2 hlt hc).mono fun e w' hp => ?_
    obtain ⟨v, rfl, hi⟩ := hp
    obtain ⟨x, c, rfl, hS, hB, hq⟩ := hi.list h.1
    exact ⟨x, c, rfl, hS, hB⟩
  · rw [show mSeriesExp0 f l = [] by unfold mSeriesExp0; rw [if_neg h], show mSeriesExp1 f l = false by unfold mSeriesExp1; simp [h]]
    by_cases h1 : ShortOk f l
    · rw [short_iff.2 h1] at R
      have n1 := h1.1.2.1
      have hne : lf l 0 ≠ 0 := fun hz => h ⟨h1, hz⟩
      have dz : (lf l 0 != 0) = true := by rw [bne_iff_ne]; exact hne
      rcases hs with hq | ⟨b, off, rfl, hlt, hc⟩
      · omega
      have cA : w.cell? ⟨b, off, none⟩ = some (.int .i64 (lf l 0)) := by have := hc 0 (by omega); rwa [Nat.add_zero] at this
      have n0 : (0 : Int) < (l.length : Int) := by omega
      clear h h1 hc hne
      go_enter Tryd.func30, Tryd.ntmps30
      go_wp2_with fail
      refine R.mono ?_
      rintro e w' ⟨rfl, rfl⟩
      go_wp2
      go_ret2
      exact ⟨none, 0, rfl, .inl rfl, Below.refl _ _⟩
    · rw [short_not.2 h1] at R
      clear h h1 hs
      go_enter Tryd.func30, Tryd.ntmps30
      go_wp2_with fail
      refine R.mono ?_
      rintro e w' ⟨rfl, rfl⟩
      go_wp2
      go_ret2
      exact ⟨none, 0, rfl, .inl rfl, Below.refl _ _⟩
end Go.Proofs.YtmgggdibbhameabDoor
