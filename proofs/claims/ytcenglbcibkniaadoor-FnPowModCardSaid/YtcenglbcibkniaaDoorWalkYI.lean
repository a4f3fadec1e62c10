/-
  Division of polynomials, the program's.
-/
import Derived.Test.YtcenglbcibkniaaDoorWalkYG
namespace Go.Proofs.YtcenglbcibkniaaDoor
open Go.RowKit
theorem inverse_c (n a : Int) (w : World) (ht : Tab w) (h0 : 0 ≤ n) (h8 : n ≤ 8) (ha : 0 ≤ a) (ha2 : a < P n) : Calls Tryd.prog 60 #[.int .i64 n, .int .i64 a] w fun e w' => e = .returned (.int .i64 (PW (P n) a (P n - 2))) ∧ w = w' := by
  have hp := P_bd h0 h8
  go_enter Tryd.func60, Tryd.ntmps60
  go_wp2_with fail
  refine (prime_c n w ht h0 h8).mono ?_
  rintro e w' ⟨rfl, rfl⟩
  go_wp2_with fail
  refine (power_c n a (P n - 2) w ht h0 h8 ha ha2 (by omega) (by omega)).mono ?_
  rintro e w' ⟨rfl, rfl⟩
  go_wp2
  go_ret
  exact ⟨rfl, rfl⟩
theorem inverse_inv {f x : Int} (h0 : 0 ≤ f) (h8 : f ≤ 8) (x0 : 0 < x) (x1 : x < P f) : PW (P f) x (P f - 2) = invF f x := by
  have hp := P_bd h0 h8
  have b := PW_bd (m := P f) (x := x) (e := P f - 2) (by omega)
  refine inv_unique h0 h8 b.1 b.2 ?_ ?_
  · rw [RS_self (by omega) x1]; omega
  · rw [RS_self (by omega) x1]; exact back_first h0 h8 x0 x1
theorem quo_len {f : Int} (h0 : 0 ≤ f) (h8 : f ≤ 8) {a b q r : List Int} (ha : Pol f a) (hb : Pol f b) (hle : b.length ≤ a.length) (h : DivP f a b q r) : q.length + b.length = a.length + 1 := by
  have h1 := div_len h0 h8 hb h
  have hr := h.2.2.1
  by_cases hlt : a.length + 1 ≤ q.length + b.length
  · omega
  · exfalso
    have ht := top_nz h0 h8 ha (by omega)
    rw [h.2.2.2 (a.length - 1), lf_out r (by omega), cv_out (fun j h => lf_out q h) (fun j h => lf_out b h) (by omega)] at ht
    simp at ht
def upd (Q : Nat → Int) (s : Nat) (m : Int) : Nat → Int := fun j => if j = s then m else Q j
theorem DivAt.stepK {f : Int} (h0 : 0 ≤ f) (h8 : f ≤ 8) {A : Nat → Int} {b : List Int} {s k : Nat} {Q R : Nat → Int} {inv : Int} (hk : b.length = k + 1) (hinv : (lf b k * inv) % P f = 1 % P f) (h : DivAt f A b (s + k + 1) Q R) :
    DivAt f A b (s + k) (upd Q s (RS (R (s + k) * inv) (P f))) (dst f b R (RS (R (s + k) * inv) (P f)) s (k + 1)) := by
  have e1 : s + k + 1 = s + b.length := by omega
  rw [e1] at h
  have := h.step h0 h8 (by omega) (inv := inv) (by rw [hk]; exact hinv)
  rw [hk, show s + (k + 1) - 1 = s + k by omega, show k + 1 - 1 = k by omega] at this
  exact this
theorem own_upd {w : World} {g n s : Nat} {Q : Nat → Int} {m : Int} (h : Own w g n Q) : Own (w.setCell ⟨g, s, none⟩ (.int .i64 m)) g n (upd Q s m) := by
  refine (World.rowIs.set h s (.int .i64 m)).congr fun j _ => ?_
  unfold upd
  split <;> rfl
theorem own_dst {f : Int} {w : World} {g n s i : Nat} {b : List Int} {R : Nat → Int} {m : Int} (h : Own w g n (dst f b R m s i)) : Own (w.setCell ⟨g, s + i, none⟩ (.int .i64 (RS (R (s + i) - RS (m * lf b i) (P f)) (P f)))) g n (dst f b R m s (i + 1)) := by
  refine (World.rowIs.set h (s + i) (.int .i64 _)).congr fun j _ => ?_
  rw [dst_succ]
  split <;> rfl
/-- What a division answers. -/
def DivR (f : Int) (l m : List Int) (w : World) (e : Ending) (w' : World) : Prop := ∃ gq gr q r, e = .returned (.tuple #[.slice (some ⟨gq, 0, none⟩) (List.length q) (List.length q), .slice (some ⟨gr, 0, none⟩) (List.length r) (List.length r)]) ∧ DivP f l m q r ∧ w.heap.size ≤ gq ∧ gq < gr ∧ Own w' gq (List.length q) (lf q) ∧ Own w' gr (List.length r) (lf r) ∧ Below w.heap.size w w'
theorem div_finish {f : Int} (h0 : 0 ≤ f) (h8 : f ≤ 8) {l m : List Int} (hl : Pol f l) (hm : Pol f m) {w w' : World} {gq gr n' M : Nat} {Q R : Nat → Int} (hd : DivAt f (lf l) m n' Q R) (hn : n' < m.length) (hn2 : n' ≤ l.length) (hM : (m.length ≤ l.length ∧ M + m.length = l.length + 1) ∨ (l.length < m.length ∧ M = 0)) (hQ : ∀ j, M ≤ j → Q j = 0)
    (hB : w.heap.size ≤ gq) (hlt : gq < gr) (hoq : Own w' gq M Q) (hor : Own w' gr (cutL l.length R).length (lf (cutL l.length R))) (hb : Below w.heap.size w w') :
    DivR f l m w (.returned (.tuple #[.slice (some ⟨gq, 0, none⟩) M M, .slice (some ⟨gr, 0, none⟩) (cutL l.length R).length (cutL l.length R).length])) w' := by
  have hp := P_pos h0 h8
  have hdiv := hd.divP (N := l.length) (M := M) hp hn hn2 hQ
  have hq : (cutL M Q).length = M := by
    rcases hM with ⟨h1, h2⟩ | ⟨h1, h2⟩
    · have := quo_len h0 h8 hl hm h1 hdiv
      omega
    · rw [h2]; rfl
  refine ⟨gq, gr, cutL M Q, cutL l.length R, by rw [hq], hdiv, hB, hlt, own_congr hoq hq.symm (fun j hj => ?_), hor, hb⟩
  rw [lf_cutL, if_pos hj]
end Go.Proofs.YtcenglbcibkniaaDoor
