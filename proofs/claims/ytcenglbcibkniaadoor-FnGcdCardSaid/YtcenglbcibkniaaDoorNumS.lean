/-
  Square roots: what both functions reckon. The program's loop keeps root·root = a·excess; the specification's finds the logarithm bit by bit. Both end at a root of a, and a has two at most.
-/
import Derived.Test.YtcenglbcibkniaaDoorNumO
namespace Go.Proofs.YtcenglbcibkniaaDoor
open Mth
/-- The odd part of P - 1. -/
def oddP (f : Int) : Int := (P f - 1) / 2 ^ (T f).toNat
def two (k : Int) : Int := 2 ^ k.toNat
/-- s is what SquareRoot answers at a. -/
def IsSq (f a s : Int) : Prop :=
  (¬ (0 ≤ f ∧ f ≤ 8) ∧ s = -1) ∨ ((0 ≤ f ∧ f ≤ 8) ∧ RS a (P f) = 0 ∧ s = 0) ∨
  ((0 ≤ f ∧ f ≤ 8) ∧ RS a (P f) ≠ 0 ∧ PW (P f) (RS a (P f)) ((P f - 1) / 2) ≠ 1 ∧ s = -1) ∨
  ((0 ≤ f ∧ f ≤ 8) ∧ RS a (P f) ≠ 0 ∧ PW (P f) (RS a (P f)) ((P f - 1) / 2) = 1 ∧ 0 < s ∧ 2 * s ≤ P f ∧ RS (s * s) (P f) = RS a (P f))
section
variable {f : Int} (h0 : 0 ≤ f) (h8 : f ≤ 8)
include h0 h8
theorem fldf : Fld (P f).toNat (gN f.toNat) := by rw [P_toNat h0]; exact fld _ (by omega)
/-- In numbers: p and the residues. -/
theorem RS_nat {a b : Int} (ha : 0 ≤ a) (hb : 0 ≤ b) : RS (a * b) (P f) = ((a.toNat * b.toNat % (P f).toNat : Nat) : Int) := by
  have hp := P_bd h0 h8
  have := toNat_RS (m := P f) (by omega) ha hb
  have hb2 := RS_bd (x := a * b) (m := P f) (by omega)
  omega
theorem roots_eq {s r : Int} (s0 : 0 ≤ s) (s1 : s < P f) (r0 : 0 ≤ r) (r1 : r < P f) (e : RS (s * s) (P f) = RS (r * r) (P f)) : s = r ∨ s + r = P f := by
  have hp := P_bd h0 h8
  rw [RS_nat h0 h8 s0 s0, RS_nat h0 h8 r0 r0] at e
  have := (fldf h0 h8).roots (s := s.toNat) (r := r.toNat) (by omega) (by omega) (by omega)
  omega
end
theorem P_odd {f : Int} (h0 : 0 ≤ f) (h8 : f ≤ 8) : P f % 2 = 1 := by
  rcases nine h0 h8 with rfl | rfl | rfl | rfl | rfl | rfl | rfl | rfl | rfl <;> decide
theorem IsSq_unique {f a s t : Int} (hs : IsSq f a s) (ht : IsSq f a t) : s = t := by
  rcases hs with ⟨k, rfl⟩ | ⟨k, z, rfl⟩ | ⟨k, z, o, rfl⟩ | ⟨k, z, o, s0, s1, es⟩ <;> rcases ht with ⟨k', rfl⟩ | ⟨k', z', rfl⟩ | ⟨k', z', o', rfl⟩ | ⟨k', z', o', t0, t1, et⟩
  all_goals first | rfl | exact absurd k' k | exact absurd k k' | exact absurd z z' | exact absurd z' z | exact absurd o o' | exact absurd o' o | skip
  have hp := P_bd k.1 k.2
  have ho := P_odd k.1 k.2
  have := roots_eq k.1 k.2 (s := s) (r := t) (by omega) (by omega) (by omega) (by omega) (es.trans et.symm)
  omega
theorem two_nat {k : Int} (_hk : 0 ≤ k) : two k = ((2 ^ k.toNat : Nat) : Int) := by unfold two; simp
theorem two_bd {k : Int} (hk : 0 ≤ k) (h2 : k ≤ 26) : 1 ≤ two k ∧ two k ≤ 67108864 := by
  rw [two_nat hk]
  have a : 2 ^ k.toNat ≤ 2 ^ 26 := Nat.pow_le_pow_right (by omega) (by omega)
  have b : 0 < 2 ^ k.toNat := Nat.pow_pos (by omega)
  have : (2 : Nat) ^ 26 = 67108864 := by decide
  omega
theorem two_succ {k : Int} (hk : 0 ≤ k) : two (k + 1) = 2 * two k := by
  rw [two_nat hk, two_nat (by omega), show (k + 1).toNat = k.toNat + 1 by omega, Nat.pow_succ]; omega
theorem odd_facts : ∀ f, f < 9 → pN f - 1 = 2 ^ tN f * ((pN f - 1) / 2 ^ tN f) ∧ ((pN f - 1) / 2 ^ tN f) % 2 = 1 := by decide +kernel
theorem odd_nat {f : Int} (h0 : 0 ≤ f) (h8 : f ≤ 8) : oddP f = (((pN f.toNat - 1) / 2 ^ tN f.toNat : Nat) : Int) := by
  unfold oddP
  have hp := P_bd h0 h8
  have ht : T f = (tN f.toNat : Int) := by unfold T; rw [if_pos ⟨h0, h8⟩]
  rw [ht, P_nat h0] at *
  rw [show ((pN f.toNat : Int) - 1) = ((pN f.toNat - 1 : Nat) : Int) by omega, Int.toNat_natCast, Int.natCast_ediv]; simp
theorem odd_bd {f : Int} (h0 : 0 ≤ f) (h8 : f ≤ 8) : 1 ≤ oddP f ∧ oddP f ≤ 1004535809 ∧ oddP f % 2 = 1 := by
  have hp := P_bd h0 h8
  have hn := P_nat h0
  have := odd_facts f.toNat (by omega)
  rw [odd_nat h0 h8]
  have h3 := Nat.div_le_self (pN f.toNat - 1) (2 ^ tN f.toNat)
  generalize (pN f.toNat - 1) / 2 ^ tN f.toNat = d at *
  omega

namespace Mth
variable {p g : Nat}
theorem Fld.half (h : Fld p g) (ho : p % 2 = 1) : g ^ ((p - 1) / 2) % p = p - 1 := by
  have hp := h.two
  have e : (g ^ ((p - 1) / 2) * g ^ ((p - 1) / 2)) % p = 1 := by
    rw [← Nat.pow_add, show (p - 1) / 2 + (p - 1) / 2 = p - 1 by omega]; exact h.one
  rcases h.sqrt1 e with h1 | h1
  · exfalso
    have := Nat.le_of_dvd (by omega) (h.ord _ h1); omega
  · exact h1
theorem neg_sq (hp : 2 < p) : ((p - 1) * (p - 1)) % p = 1 := by
  obtain ⟨k, rfl⟩ : ∃ k, p = k + 2 := ⟨p - 2, by omega⟩
  have : (k + 2 - 1) * (k + 2 - 1) = 1 + (k + 2) * k := by
    show (k + 1) * (k + 1) = _
    simp [Nat.mul_add, Nat.mul_comm]; omega
  rw [this, Nat.add_mul_mod_self_left, Nat.mod_eq_of_lt (by omega)]
theorem pow2 (e k : Nat) : e ^ (2 ^ (k + 1)) = e ^ (2 ^ k) * e ^ (2 ^ k) := by
  rw [Nat.pow_succ, Nat.pow_mul, Nat.pow_two]
theorem pow2' (e k : Nat) : e ^ (2 ^ (k + 1)) = (e * e) ^ (2 ^ k) := by
  rw [Nat.pow_succ, Nat.mul_comm, Nat.pow_mul, Nat.pow_two]
/-- The state of the program's loop. -/
structure Sq (p a r e s k : Nat) : Prop where
  rr : (r * r) % p = (a * e) % p
  ee : e ^ (2 ^ k) % p = 1
  ss : s ^ (2 ^ k) % p = p - 1
theorem Sq.ss' {a r e s k : Nat} (h : Sq p a r e s (k + 1)) : (s * s % p) ^ (2 ^ k) % p = p - 1 := by
  rw [powm (c := s * s) _ (Nat.mod_mod _ _), ← pow2', h.ss]
theorem Sq.yes {a r e s k : Nat} (h : Sq p a r e s (k + 1)) (h1 : e ^ (2 ^ k) % p = 1) : Sq p a r e (s * s % p) k := ⟨h.rr, h1, h.ss'⟩
theorem Sq.no {a r e s k : Nat} (hf : Fld p g) (h : Sq p a r e s (k + 1)) (h1 : e ^ (2 ^ k) % p ≠ 1) : Sq p a (r * s % p) (e * (s * s % p) % p) (s * s % p) k := by
  have hp := hf.two
  have e1 : e ^ (2 ^ k) % p = p - 1 := by
    rcases hf.sqrt1 (y := e ^ (2 ^ k)) (by rw [← pow2]; exact h.ee) with h2 | h2
    · exact absurd h2 h1
    · exact h2
  refine ⟨?_, ?_, h.ss'⟩
  · have a1 : (r * s % p * (r * s % p)) % p = (r * r * (s * s)) % p := by
      rw [← Nat.mul_mod, show r * s * (r * s) = r * r * (s * s) by simp only [Nat.mul_assoc, Nat.mul_left_comm]]
    have a2 : (a * (e * (s * s % p) % p)) % p = (a * e * (s * s)) % p := by
      rw [mulm (a := a) (c := a) rfl (Nat.mod_mod _ _), Nat.mul_assoc]
      exact mulm rfl (mulm rfl (Nat.mod_mod _ _))
    rw [a1, a2]; exact mulm h.rr rfl
  · rw [powm (c := e * (s * s % p)) _ (Nat.mod_mod _ _), Nat.mul_pow]
    rw [Nat.mul_mod, e1, h.ss', neg_sq hp]
theorem Sq.last {a r e s : Nat} (h : Sq p a r e s 0) : (r * r) % p = a % p := by
  have e1 : e % p = 1 := by simpa using h.ee
  rw [h.rr, Nat.mul_mod, e1, Nat.mul_one, Nat.mod_mod]
/-- The start, where a^((p-1)/2) is 1. -/
theorem Sq.first {a t o : Nat} (h : Fld p g) (ho : p % 2 = 1) (ht : 0 < t) (hto : p - 1 = 2 ^ t * o) (hodd : o % 2 = 1) (ha : a ^ ((p - 1) / 2) % p = 1) :
    Sq p a (a ^ ((o + 1) / 2) % p) (a ^ o % p) (g ^ o % p) (t - 1) := by
  have hh : o * 2 ^ (t - 1) = (p - 1) / 2 := by
    rw [hto]
    obtain ⟨u, rfl⟩ : ∃ u, t = u + 1 := ⟨t - 1, by omega⟩
    rw [Nat.pow_succ, Nat.add_sub_cancel, show 2 ^ u * 2 * o = o * 2 ^ u * 2 by rw [Nat.mul_comm, ← Nat.mul_assoc], Nat.mul_div_cancel _ (by omega)]
  refine ⟨?_, ?_, ?_⟩
  · rw [← Nat.mul_mod, ← Nat.pow_add, show (o + 1) / 2 + (o + 1) / 2 = o + 1 by omega, mulm (a := a) (c := a) rfl (Nat.mod_mod _ _), Nat.pow_succ, Nat.mul_comm]
  · rw [powm (c := a ^ o) _ (Nat.mod_mod _ _), ← Nat.pow_mul, hh, ha]
  · rw [powm (c := g ^ o) _ (Nat.mod_mod _ _), ← Nat.pow_mul, hh, h.half ho]
end Mth
def SqI (f a r e s k : Int) : Prop := Sq (P f).toNat a.toNat r.toNat e.toNat s.toNat k.toNat
theorem PW_toNat {f : Int} (x e : Int) : (PW (P f) x e).toNat = x.toNat ^ e.toNat % (P f).toNat := by
  unfold PW; exact Int.toNat_natCast _
theorem PW_one {f : Int} (x e : Int) : PW (P f) x e = 1 ↔ x.toNat ^ e.toNat % (P f).toNat = 1 := by
  unfold PW; omega
theorem P_split {f : Int} (h0 : 0 ≤ f) (h8 : f ≤ 8) : (P f).toNat - 1 = 2 ^ (T f).toNat * (oddP f).toNat ∧ (oddP f).toNat % 2 = 1 ∧ (T f).toNat = tN f.toNat ∧ 0 < (T f).toNat := by
  have ht : T f = (tN f.toNat : Int) := by unfold T; rw [if_pos ⟨h0, h8⟩]
  have hb := T_bd h0 h8
  have hf := odd_facts f.toNat (by omega)
  rw [odd_nat h0 h8, P_toNat h0, ht, Int.toNat_natCast, Int.toNat_natCast]
  exact ⟨hf.1, hf.2, rfl, by omega⟩
theorem SqI_first {f a : Int} (h0 : 0 ≤ f) (h8 : f ≤ 8) (hs : PW (P f) a ((P f - 1) / 2) = 1) : SqI f a (PW (P f) a ((oddP f + 1) / 2)) (PW (P f) a (oddP f)) (PW (P f) (G f) (oddP f)) (T f - 1) := by
  have hp := P_bd h0 h8
  have hO := odd_bd h0 h8
  have hsp := P_split h0 h8
  have hodd := P_odd h0 h8
  have hb := T_bd h0 h8
  have hG : (G f).toNat = gN f.toNat := by unfold G; rw [if_pos h0]; rfl
  unfold SqI
  rw [PW_toNat, PW_toNat, PW_toNat, hG, show ((oddP f + 1) / 2).toNat = ((oddP f).toNat + 1) / 2 by omega, show (T f - 1).toNat = (T f).toNat - 1 by omega]
  refine Sq.first (fldf h0 h8) (by omega) hsp.2.2.2 hsp.1 hsp.2.1 ?_
  have := (PW_one _ _).1 hs
  rw [show ((P f - 1) / 2).toNat = ((P f).toNat - 1) / 2 by omega] at this
  exact this
theorem SqI_yes {f a r e s k : Int} (h0 : 0 ≤ f) (h8 : f ≤ 8) (s0 : 0 ≤ s) (k0 : 0 < k) (h : SqI f a r e s k) (h1 : PW (P f) e (two (k - 1)) = 1) : SqI f a r e (RS (s * s) (P f)) (k - 1) := by
  have hp := P_bd h0 h8
  unfold SqI at *
  rw [toNat_RS (by omega) s0 s0]
  rw [show k.toNat = (k - 1).toNat + 1 by omega] at h
  refine h.yes ?_
  have := (PW_one _ _).1 h1
  rw [two_nat (by omega), Int.toNat_natCast] at this; exact this
theorem SqI_no {f a r e s k : Int} (h0 : 0 ≤ f) (h8 : f ≤ 8) (r0 : 0 ≤ r) (e0 : 0 ≤ e) (s0 : 0 ≤ s) (k0 : 0 < k) (h : SqI f a r e s k) (h1 : PW (P f) e (two (k - 1)) ≠ 1) : SqI f a (RS (r * s) (P f)) (RS (e * RS (s * s) (P f)) (P f)) (RS (s * s) (P f)) (k - 1) := by
  have hp := P_bd h0 h8
  unfold SqI at *
  have hb := RS_bd (x := s * s) (m := P f) (by omega)
  rw [toNat_RS (by omega) r0 s0, toNat_RS (by omega) e0 hb.1, toNat_RS (by omega) s0 s0]
  rw [show k.toNat = (k - 1).toNat + 1 by omega] at h
  refine h.no (fldf h0 h8) fun h2 => h1 ((PW_one _ _).2 ?_)
  rw [two_nat (by omega), Int.toNat_natCast]; exact h2
theorem sq_neg (f r : Int) : RS ((P f - r) * (P f - r)) (P f) = RS (r * r) (P f) := by
  unfold RS
  have : (P f - r) * (P f - r) = r * r + P f * (P f - 2 * r) := by
    rw [Int.sub_mul, Int.mul_sub, Int.mul_sub, Int.mul_sub, Int.mul_comm r (P f), show P f * (2 * r) = 2 * (P f * r) by rw [Int.mul_left_comm]]; omega
  rw [this, Int.add_mul_emod_self_left]
/-- From a root to the answer. -/
theorem IsSq_of {f a r : Int} (h0 : 0 ≤ f) (h8 : f ≤ 8) (hz : RS a (P f) ≠ 0) (ho : PW (P f) (RS a (P f)) ((P f - 1) / 2) = 1) (r0 : 0 ≤ r) (r1 : r < P f) (e : RS (r * r) (P f) = RS a (P f)) :
    (P f - r < r → IsSq f a (P f - r)) ∧ (r ≤ P f - r → IsSq f a r) := by
  have hp := P_bd h0 h8
  have hr : 0 < r := by
    rcases Int.lt_or_eq_of_le r0 with h | h
    · exact h
    · subst h; exfalso; apply hz; rw [← e]; unfold RS; simp
  refine ⟨fun h => .inr (.inr (.inr ⟨⟨h0, h8⟩, hz, ho, by omega, by omega, ?_⟩)), fun h => .inr (.inr (.inr ⟨⟨h0, h8⟩, hz, ho, hr, by omega, e⟩))⟩
  rw [sq_neg, e]
theorem SqI_last {f a r e s : Int} (h0 : 0 ≤ f) (h8 : f ≤ 8) (a0 : 0 ≤ a) (a1 : a < P f) (r0 : 0 ≤ r) (h : SqI f a r e s 0) : RS (r * r) (P f) = a := by
  have hp := P_bd h0 h8
  unfold SqI at h
  have := h.last
  rw [RS_nat h0 h8 r0 r0, this, Nat.mod_eq_of_lt (by omega)]; omega
namespace Mth
variable {p g : Nat}
theorem Fld.inv_pow (h : Fld p g) {z : Nat} (hz : z % p ≠ 0) {e k : Nat} (hd : (p - 1) ∣ e + k) : (z ^ e * z ^ k) % p = 1 := by
  obtain ⟨c, hc⟩ := hd
  rw [← Nat.pow_add, hc, Nat.pow_mul]
  exact pow_one_mod c (by have := h.two; omega) (h.fermat hz)
theorem bit_mul {y z L k m : Nat} (hL : (L * z ^ k) % p = y % p) : (L ^ m * z ^ (k * m)) % p = y ^ m % p := by
  rw [Nat.pow_mul, ← Nat.mul_pow]; exact powm m hL
theorem bit_yes {y z L k m : Nat} (hL : (L * z ^ k) % p = y % p) (h1 : L ^ m % p = 1) : y ^ m % p = z ^ (k * m) % p := by
  rw [← bit_mul (m := m) hL, Nat.mul_mod, h1, Nat.one_mul, Nat.mod_mod]
theorem Fld.bit_no (h : Fld p g) {y z L k m j : Nat} (hz : z % p ≠ 0) (hb : y ^ (m * 2) % p = z ^ (k * (m * 2)) % p) (hL : (L * z ^ k) % p = y % p) (h1 : L ^ m % p ≠ 1) (hj : z ^ (j * m) % p = p - 1) :
    y ^ m % p = z ^ ((k + j) * m) % p := by
  have hp := h.two
  have hzk := h.pow_nz (k * m) hz
  have e : (y ^ m % p * (y ^ m % p)) % p = (z ^ (k * m) % p * (z ^ (k * m) % p)) % p := by
    rw [← Nat.mul_mod, ← Nat.mul_mod, ← Nat.pow_two, ← Nat.pow_two, ← Nat.pow_mul, ← Nat.pow_mul, hb, Nat.mul_assoc]
  have hA : y ^ m % p ≠ z ^ (k * m) % p := by
    intro e2
    apply h1
    have e3 := bit_mul (m := m) hL
    rw [e2] at e3
    have e4 := h.cancel (x := z ^ (k * m)) (a := L ^ m) (b := 1) hzk (by rw [Nat.mul_one, Nat.mul_comm]; exact e3)
    rw [e4, Nat.mod_eq_of_lt (by omega)]
  have hB := h.roots (Nat.mod_lt _ (by omega)) (Nat.mod_lt _ (by omega)) e
  have hs : y ^ m % p + z ^ (k * m) % p = p := by
    rcases hB with h2 | h2
    · exact absurd h2 hA
    · exact h2
  rw [Nat.add_mul, Nat.pow_add, Nat.mul_mod, hj]
  have hlt : y ^ m % p < p := Nat.mod_lt _ (by omega)
  clear hb hL h1 hj hz hzk e hA hB
  generalize z ^ (k * m) % p = B at *
  generalize y ^ m % p = A at *
  obtain ⟨b, rfl⟩ : ∃ b, B = b + 1 := ⟨B - 1, by omega⟩
  obtain ⟨q, rfl⟩ : ∃ q, p = q + 1 := ⟨p - 1, by omega⟩
  have e5 : (b + 1) * (q + 1 - 1) = (q - b) + (q + 1) * b := by
    show (b + 1) * q = _
    have : b ≤ q := by omega
    rw [Nat.add_mul, Nat.add_mul, Nat.mul_comm q b]; omega
  rw [e5, Nat.add_mul_mod_self_left, Nat.mod_eq_of_lt (by omega)]; omega
theorem neg_pow (hp : 2 < p) {k x : Nat} (hk : k % 2 = 1) (hx : x % p = p - 1) : x ^ k % p = p - 1 := by
  rw [← Nat.div_add_mod k 2, hk, Nat.pow_succ, Nat.pow_mul, Nat.pow_two]
  have h1 : (x * x) % p = 1 := by rw [Nat.mul_mod, hx, neg_sq hp]
  rw [Nat.mul_mod, pow_one_mod _ (by omega) h1, hx, Nat.one_mul, Nat.mod_eq_of_lt (by omega)]
end Mth
/-- The state of the specification's loop. -/
def BitI (f y z k i : Int) : Prop := 0 ≤ k ∧ k < two i ∧ y.toNat ^ (2 ^ (T f - i).toNat) % (P f).toNat = z.toNat ^ (k.toNat * 2 ^ (T f - i).toNat) % (P f).toNat
theorem PW_nz {f x e : Int} (h0 : 0 ≤ f) (h8 : f ≤ 8) (hx0 : 0 < x) (hx : x < P f) : PW (P f) x e ≠ 0 := by
  have hp := P_bd h0 h8
  have := (fldf h0 h8).pow_nz (x := x.toNat) e.toNat (by rw [Nat.mod_eq_of_lt (by omega)]; omega)
  unfold PW; omega
theorem BitI_first {f x : Int} (h0 : 0 ≤ f) (h8 : f ≤ 8) (x0 : 0 < x) (x1 : x < P f) : BitI f (PW (P f) x (oddP f)) (PW (P f) (G f) (oddP f)) 0 0 := by
  have hp := P_bd h0 h8
  have hsp := P_split h0 h8
  refine ⟨by omega, by decide, ?_⟩
  rw [show (T f - 0) = T f by omega, PW_toNat, powm (c := x.toNat ^ (oddP f).toNat) _ (Nat.mod_mod _ _), ← Nat.pow_mul, Nat.mul_comm, ← hsp.1, (fldf h0 h8).fermat (by rw [Nat.mod_eq_of_lt (by omega)]; omega)]
  rw [show (0 : Int).toNat = 0 from rfl, Nat.zero_mul, Nat.pow_zero, Nat.mod_eq_of_lt (by omega)]
theorem Z_half {f : Int} (h0 : 0 ≤ f) (h8 : f ≤ 8) {i : Nat} (hi : i < (T f).toNat) : (PW (P f) (G f) (oddP f)).toNat ^ (2 ^ i * 2 ^ ((T f).toNat - 1 - i)) % (P f).toNat = (P f).toNat - 1 := by
  have hp := P_bd h0 h8
  have hsp := P_split h0 h8
  have hodd := P_odd h0 h8
  have hG : (G f).toNat = gN f.toNat := by unfold G; rw [if_pos h0]; rfl
  rw [PW_toNat, powm (c := (G f).toNat ^ (oddP f).toNat) _ (Nat.mod_mod _ _), ← Nat.pow_mul, ← Nat.pow_add, show i + ((T f).toNat - 1 - i) = (T f).toNat - 1 by omega, hG]
  have hh : (oddP f).toNat * 2 ^ ((T f).toNat - 1) = ((P f).toNat - 1) / 2 := by
    rw [hsp.1]
    obtain ⟨u, hu⟩ : ∃ u, (T f).toNat = u + 1 := ⟨(T f).toNat - 1, by omega⟩
    rw [hu, Nat.pow_succ, Nat.add_sub_cancel, show 2 ^ u * 2 * (oddP f).toNat = (oddP f).toNat * 2 ^ u * 2 by rw [Nat.mul_comm, ← Nat.mul_assoc], Nat.mul_div_cancel _ (by omega)]
  rw [hh]; exact (fldf h0 h8).half (by omega)
/-- z^(-k), as Power gives it. -/
theorem inv_at {f z k : Int} (h0 : 0 ≤ f) (h8 : f ≤ 8) (z0 : 0 < z) (z1 : z < P f) (k0 : 0 ≤ k) : ((mPower f z (-k)).toNat * z.toNat ^ k.toNat) % (P f).toNat = 1 ∧ 0 < mPower f z (-k) ∧ mPower f z (-k) < P f := by
  have hp := P_bd h0 h8
  have hz : RS z (P f) = z := RS_self (by omega) z1
  have e : mPower f z (-k) = PW (P f) z (RS (-k) (P f - 1)) := by unfold mPower; rw [if_pos ⟨h0, h8⟩, hz, if_neg (by omega)]
  have hb := PW_bd (m := P f) (x := z) (e := RS (-k) (P f - 1)) (by omega)
  have hn := PW_nz (e := RS (-k) (P f - 1)) h0 h8 z0 z1
  rw [e]
  refine ⟨?_, by omega, hb.2⟩
  rw [PW_toNat, mulm (Nat.mod_mod _ _) rfl]
  refine (fldf h0 h8).inv_pow (by rw [Nat.mod_eq_of_lt (by omega)]; omega) ?_
  have hd : (P f - 1) ∣ RS (-k) (P f - 1) + k := by
    refine Int.dvd_of_emod_eq_zero ?_
    unfold RS
    rw [Int.emod_add_emod, Int.add_left_neg, Int.zero_emod]
  have hb2 := RS_bd (x := -k) (m := P f - 1) (by omega)
  have : (((P f).toNat - 1 : Nat) : Int) ∣ (((RS (-k) (P f - 1)).toNat + k.toNat : Nat) : Int) := by
    rw [show (((P f).toNat - 1 : Nat) : Int) = P f - 1 by omega, show (((RS (-k) (P f - 1)).toNat + k.toNat : Nat) : Int) = RS (-k) (P f - 1) + k by omega]; exact hd
  exact Int.natCast_dvd_natCast.1 this
theorem left_at {f y z k : Int} (h0 : 0 ≤ f) (h8 : f ≤ 8) (y0 : 0 < y) (y1 : y < P f) (z0 : 0 < z) (z1 : z < P f) (k0 : 0 ≤ k) :
    ((mMul f y (mPower f z (-k))).toNat * z.toNat ^ k.toNat) % (P f).toNat = y.toNat % (P f).toNat ∧ 0 < mMul f y (mPower f z (-k)) ∧ mMul f y (mPower f z (-k)) < P f := by
  have hp := P_bd h0 h8
  obtain ⟨e1, i0, i1⟩ := inv_at h0 h8 z0 z1 k0
  generalize mPower f z (-k) = u at *
  have e : mMul f y u = RS (y * u) (P f) := if_pos ⟨h0, h8⟩
  have hb := RS_bd (x := y * u) (m := P f) (by omega)
  have hnz := (fldf h0 h8).mul_nz (x := y.toNat) (y := u.toNat) (by rw [Nat.mod_eq_of_lt (by omega)]; omega) (by rw [Nat.mod_eq_of_lt (by omega)]; omega)
  have et := toNat_RS (m := P f) (by omega) (show 0 ≤ y by omega) (show 0 ≤ u by omega)
  rw [e]
  refine ⟨?_, by omega, hb.2⟩
  rw [et, mulm (Nat.mod_mod _ _) rfl, Nat.mul_assoc, Nat.mul_mod, e1, Nat.mul_one, Nat.mod_mod]
theorem BitI_yes {f y z k i L : Int} (i0 : 0 ≤ i) (i1 : i < T f) (h : BitI f y z k i) (hL : (L.toNat * z.toNat ^ k.toNat) % (P f).toNat = y.toNat % (P f).toNat) (h1 : PW (P f) L (two (T f - 1 - i)) = 1) : BitI f y z k (i + 1) := by
  refine ⟨h.1, by have := h.2.1; have := two_succ i0; have := h.1; omega, ?_⟩
  have := (PW_one _ _).1 h1
  rw [two_nat (by omega), Int.toNat_natCast] at this
  rw [show (T f - (i + 1)) = T f - 1 - i by omega]
  exact bit_yes hL this
theorem BitI_no {f y k i L : Int} (h0 : 0 ≤ f) (h8 : f ≤ 8) (i0 : 0 ≤ i) (i1 : i < T f) (h : BitI f y (PW (P f) (G f) (oddP f)) k i) (hL : (L.toNat * (PW (P f) (G f) (oddP f)).toNat ^ k.toNat) % (P f).toNat = y.toNat % (P f).toNat)
    (h1 : PW (P f) L (two (T f - 1 - i)) ≠ 1) : BitI f y (PW (P f) (G f) (oddP f)) (k + two i) (i + 1) := by
  have hp := P_bd h0 h8
  have hG := G_bd h0 h8
  have hT := T_bd h0 h8
  have h2 := two_succ i0
  have h3 := two_bd i0 (by omega)
  have hk := h.1
  have hk2 := h.2.1
  refine ⟨by omega, by omega, ?_⟩
  have hz := PW_nz (e := oddP f) h0 h8 (show 0 < G f by omega) hG.2
  have hzb := PW_bd (m := P f) (x := G f) (e := oddP f) (by omega)
  have e1 : (T f - (i + 1)).toNat = (T f).toNat - 1 - i.toNat := by omega
  have e2 : (T f - i).toNat = ((T f).toNat - 1 - i.toNat) + 1 := by omega
  have hb := h.2.2
  rw [e2, Nat.pow_succ] at hb
  have h1' : L.toNat ^ (2 ^ ((T f).toNat - 1 - i.toNat)) % (P f).toNat ≠ 1 := fun h => h1 ((PW_one _ _).2 (by
    rw [two_nat (by omega), Int.toNat_natCast, show (T f - 1 - i).toNat = (T f).toNat - 1 - i.toNat by omega]; exact h))
  have hZ := Z_half h0 h8 (i := i.toNat) (by omega)
  rw [e1, show (k + two i).toNat = k.toNat + 2 ^ i.toNat by rw [two_nat i0] at *; omega]
  exact (fldf h0 h8).bit_no (by rw [Nat.mod_eq_of_lt (by omega)]; omega) hb hL h1' hZ
/-- At the end: y is z^k. -/
theorem BitI_end {f y z k : Int} (h : BitI f y z k (T f)) : y.toNat % (P f).toNat = z.toNat ^ k.toNat % (P f).toNat := by
  have := h.2.2
  rw [show T f - T f = 0 by omega, show (0 : Int).toNat = 0 from rfl, Nat.pow_zero, Nat.pow_one, Nat.mul_one] at this
  exact this
theorem bit_odd {f x k : Int} (h0 : 0 ≤ f) (h8 : f ≤ 8) (hk : k % 2 = 1) (h : BitI f (PW (P f) x (oddP f)) (PW (P f) (G f) (oddP f)) k (T f)) : PW (P f) x ((P f - 1) / 2) ≠ 1 := by
  have hp := P_bd h0 h8
  have hsp := P_split h0 h8
  have hT := T_bd h0 h8
  have hk0 := h.1
  have e := BitI_end h
  have hZ := Z_half h0 h8 (i := 0) hsp.2.2.2
  have hh : (oddP f).toNat * 2 ^ ((T f).toNat - 1) = ((P f - 1) / 2).toNat := by
    rw [show ((P f - 1) / 2).toNat = ((P f).toNat - 1) / 2 by omega, hsp.1]
    obtain ⟨u, hu⟩ : ∃ u, (T f).toNat = u + 1 := ⟨(T f).toNat - 1, by omega⟩
    rw [hu, Nat.pow_succ, Nat.add_sub_cancel, show 2 ^ u * 2 * (oddP f).toNat = (oddP f).toNat * 2 ^ u * 2 by rw [Nat.mul_comm, ← Nat.mul_assoc], Nat.mul_div_cancel _ (by omega)]
  intro h1
  have h2 := (PW_one _ _).1 h1
  rw [← hh, Nat.pow_mul] at h2
  have e2 : x.toNat ^ (oddP f).toNat % (P f).toNat = (PW (P f) (G f) (oddP f)).toNat ^ k.toNat % (P f).toNat := by rw [← e, PW_toNat, Nat.mod_mod]
  rw [powm _ e2, ← Nat.pow_mul, Nat.mul_comm, Nat.pow_mul] at h2
  rw [Nat.pow_zero, Nat.one_mul, Nat.sub_zero] at hZ
  rw [neg_pow (by omega) (show k.toNat % 2 = 1 by omega) hZ] at h2
  omega
theorem re4 (s u : Nat) : s * u * (s * u) = (u * u) * (s * s) := by rw [Nat.mul_mul_mul_comm, Nat.mul_comm]
theorem bit_even {f x k : Int} (h0 : 0 ≤ f) (h8 : f ≤ 8) (x0 : 0 < x) (x1 : x < P f) (hk : k % 2 = 0) (h : BitI f (PW (P f) x (oddP f)) (PW (P f) (G f) (oddP f)) k (T f)) :
    0 ≤ mMul f (PW (P f) x ((oddP f + 1) / 2)) (mPower f (PW (P f) (G f) (oddP f)) (-(k / 2))) ∧ mMul f (PW (P f) x ((oddP f + 1) / 2)) (mPower f (PW (P f) (G f) (oddP f)) (-(k / 2))) < P f ∧
    RS (mMul f (PW (P f) x ((oddP f + 1) / 2)) (mPower f (PW (P f) (G f) (oddP f)) (-(k / 2))) * mMul f (PW (P f) x ((oddP f + 1) / 2)) (mPower f (PW (P f) (G f) (oddP f)) (-(k / 2)))) (P f) = x ∧
    PW (P f) x ((P f - 1) / 2) = 1 := by
  have hp := P_bd h0 h8
  have hG := G_bd h0 h8
  have hO := odd_bd h0 h8
  have hodd := P_odd h0 h8
  have hk0 := h.1
  have e := BitI_end h
  have hz := PW_nz (e := oddP f) h0 h8 (show 0 < G f by omega) hG.2
  have hzb := PW_bd (m := P f) (x := G f) (e := oddP f) (by omega)
  have hy := PW_nz (e := (oddP f + 1) / 2) h0 h8 x0 x1
  have hyb := PW_bd (m := P f) (x := x) (e := (oddP f + 1) / 2) (by omega)
  have hl := left_at (y := PW (P f) x ((oddP f + 1) / 2)) (z := PW (P f) (G f) (oddP f)) (k := k / 2) h0 h8 (by omega) hyb.2 (by omega) hzb.2 (by omega)
  generalize mMul f (PW (P f) x ((oddP f + 1) / 2)) (mPower f (PW (P f) (G f) (oddP f)) (-(k / 2))) = s at *
  obtain ⟨hl1, s0, s1⟩ := hl
  have hsq : (s.toNat * s.toNat) % (P f).toNat = x.toNat % (P f).toNat := by
    have q := mulm hl1 hl1
    rw [PW_toNat] at e
    rw [PW_toNat x ((oddP f + 1) / 2), ← Nat.mul_mod, ← Nat.pow_add, show ((oddP f + 1) / 2).toNat + ((oddP f + 1) / 2).toNat = (oddP f).toNat + 1 by omega,
      re4,
      ← Nat.pow_add, show (k / 2).toNat + (k / 2).toNat = k.toNat by omega, Nat.pow_succ] at q
    rw [Nat.mod_mod] at e
    refine (fldf h0 h8).cancel (x := (PW (P f) (G f) (oddP f)).toNat ^ k.toNat) ?_ ?_
    · exact (fldf h0 h8).pow_nz _ (by rw [Nat.mod_eq_of_lt (by omega)]; omega)
    · rw [q]; exact mulm e rfl
  refine ⟨by omega, s1, ?_, ?_⟩
  · rw [RS_nat h0 h8 (by omega) (by omega), hsq, Nat.mod_eq_of_lt (by omega)]; omega
  · refine (PW_one _ _).2 ?_
    rw [← powm _ hsq, Nat.mul_pow, ← Nat.pow_add, show ((P f - 1) / 2).toNat + ((P f - 1) / 2).toNat = (P f).toNat - 1 by omega]
    exact (fldf h0 h8).fermat (by rw [Nat.mod_eq_of_lt (by omega)]; omega)
theorem two_lt {f j : Int} (h0 : 0 ≤ f) (h8 : f ≤ 8) (j0 : 0 ≤ j) (j1 : j < T f) : two j < P f - 1 := by
  have hp := P_bd h0 h8
  have hsp := (P_split h0 h8).1
  have hO := odd_bd h0 h8
  have hT := T_bd h0 h8
  rw [two_nat j0]
  have a1 : 2 ^ j.toNat * 2 ≤ 2 ^ (T f).toNat := by rw [← Nat.pow_succ]; exact Nat.pow_le_pow_right (by omega) (by omega)
  have a2 : 2 ^ (T f).toNat * 1 ≤ 2 ^ (T f).toNat * (oddP f).toNat := Nat.mul_le_mul_left _ (by omega)
  have a3 : 0 < 2 ^ j.toNat := Nat.pow_pos (by omega)
  rw [← hsp] at a2
  generalize 2 ^ j.toNat = x at *
  generalize 2 ^ (T f).toNat = y at *
  omega
end Go.Proofs.YtcenglbcibkniaaDoor
