/-
  Texts of the proofs of this seat, joined (part 2).
-/
import Derived.Deep.RegionHeld3
import Derived.Deep.AppendLies
import Derived.Maps.AppendAt
import Derived.Test.YtangofjpnhhfeabDoorK1
namespace Go.Proofs.YtangofjpnhhfeabDoor
open Go.RowKit
def NilB (w : World) (e : Ending) (w' : World) : Prop := e = .returned (.tuple #[.slice none 0 0, .bool false]) ∧ Below w.heap.size w w'
theorem NilB.list {w w' : World} {l : List Int} {b : Bool} {e : Ending} (hl : l = []) (hb : b = false) (h : NilB w e w') : ListLB w l b e w' := by
  subst hl; subst hb
  obtain ⟨rfl, hb⟩ := h
  exact ⟨none, 0, rfl, .inl rfl, hb⟩
theorem NilB.own {w w' : World} {l : List Int} {b : Bool} {e : Ending} (hl : l = []) (hb : b = false) (h : NilB w e w') : OwnLB w l b e w' := by
  subst hl; subst hb
  obtain ⟨rfl, hb⟩ := h
  exact ⟨none, 0, rfl, OwnA.nil rfl, hb⟩
theorem pow_congr {p x y : Int} (h : x % p = y % p) (k : Nat) : x ^ k % p = y ^ k % p := by
  induction k with
  | zero => rw [Int.pow_zero, Int.pow_zero]
  | succ k ih => rw [Int.pow_succ, Int.pow_succ]; exact emod_mul_congr ih h
theorem power_nat {f : Int} (h0 : 0 ≤ f) (h8 : f ≤ 8) (x : Int) (k : Nat) : mPower f x k = RS (x ^ k) (P f) := by
  have hp := P_bd h0 h8
  unfold mPower
  rw [if_pos ⟨h0, h8⟩]
  by_cases hz : RS x (P f) = 0
  · rw [if_pos hz]
    unfold pow0
    have e0 : x % P f = 0 % P f := by rw [show x % P f = 0 from hz]; simp
    cases k with
    | zero => simp [RS]; exact (Int.emod_eq_of_lt (by omega) (by omega)).symm
    | succ k =>
      rw [if_neg (by omega), if_neg (by omega)]
      unfold RS
      rw [pow_congr e0 (k + 1), Int.pow_succ, Int.mul_zero]; simp
  · rw [if_neg hz]
    have bd := RS_bd (x := x) (m := P f) (by omega)
    have e1 : ((RS x (P f)).toNat : Int) = RS x (P f) := Int.toNat_of_nonneg bd.1
    have e2 : ((P f).toNat : Int) = P f := Int.toNat_of_nonneg (by omega)
    have hx : (RS x (P f)).toNat % (P f).toNat ≠ 0 := by rw [Nat.mod_eq_of_lt (by omega)]; omega
    have hm := (fldf h0 h8).pow_mod k hx
    unfold PW
    have e3 : (RS (k : Int) (P f - 1)).toNat = k % ((P f).toNat - 1) := by
      unfold RS
      rw [show P f - 1 = (((P f).toNat - 1 : Nat) : Int) by omega, ← Int.natCast_emod, Int.toNat_natCast]
    rw [e3, hm, Int.natCast_emod, Int.natCast_pow, e1, e2]
    unfold RS
    exact pow_congr (by simp) k
/-- Horner's sums. -/
def hz (f x : Int) (A : Nat → Int) (n : Nat) : Nat → Int
  | 0 => 0
  | t + 1 => RS (RS (hz f x A n t * x) (P f) + A (n - (t + 1))) (P f)
theorem ev_step {f : Int} (h0 : 0 ≤ f) (h8 : f ≤ 8) (x : Int) (A : Nat → Int) (k : Nat) : mAdd f (RS (evN x A k) (P f)) (mMul f (A k) (mPower f x k)) = RS (evN x A (k + 1)) (P f) := by
  rw [mAdd_on h0 h8, mMul_on h0 h8, power_nat h0 h8]
  have e : evN x A (k + 1) = evN x A k + A k * x ^ k := rfl
  rw [e]
  unfold RS
  refine emod_add_congr (by simp) ?_
  rw [Int.emod_emod_of_dvd _ (Int.dvd_refl _)]
  exact emod_mul_congr rfl (by simp)
set_option maxRecDepth 100000 in
set_option maxHeartbeats 1600000 in
theorem sEvalPoly (f : Int) (a : Option Addr) (l : List Int) (cap : Nat) (x : Int) (w : World) (hn : l.length ≤ 1048576) (hs : Src w a l.length (lf l)) : Calls Tryd.prog 30 #[.int .i64 f, .slice a l.length cap, .int .i64 x] w (IntP w (mEvalPoly f l x)) := by
  have R1 := sPolyOk f a l cap w hn hs
  by_cases hk : PolOk f l
  · rw [pok_iff.2 hk] at R1
    have h0 := hk.1.1
    have h8 := hk.1.2
    have l4 := hk.2.1
    rw [show mEvalPoly f l x = RS (evN x (lf l) l.length) (P f) by unfold mEvalPoly; rw [if_pos hk]; rfl]
    clear hk
    rcases hs with hz0 | ⟨b, off, rfl, hlt, hc⟩
    · rw [hz0] at R1 ⊢
      go_enter Tryd.func30, Tryd.ntmps30
      go_wp2_with fail
      refine R1.mono ?_
      rintro e w' ⟨rfl, rfl⟩
      go_wp2_with fail
      refine wp_loop_rounds 1 ?_
      rw [rounds_succ]
      go_wp2
      go_ret
      exact ⟨by simp [evN, sumN, RS], Below.refl _ _⟩
    · have HC := Lib.hid hc
      clear hc
      generalize lf l = A at *
      generalize l.length = n at *
      go_enter Tryd.func30, Tryd.ntmps30
      go_wp2_with fail
      refine R1.mono ?_
      rintro e w' ⟨rfl, rfl⟩
      go_wp2_with fail
      go_loopw [7, 8] (fun s i wr => ∃ k : Nat, i = .int .i64 k ∧ k ≤ n ∧ s = .int .i64 (RS (evN x A k) (P f)) ∧ Below w.heap.size w wr) (fun _ i _ => n - (intOf i).toNat)
      case atStart => exact ⟨0, rfl, Nat.zero_le _, by simp [evN, sumN, RS], Below.refl _ _⟩
      case round =>
        obtain ⟨k, rfl, hk, rfl, hb⟩ := hrel
        by_cases h1 : k < n
        · have d1 : wr.cell? ⟨b, off + k, none⟩ = some (.int .i64 (A k)) := (hb.cell (p := ⟨b, off + k, none⟩) hlt).trans (HC.out k h1)
          have HE := Lib.hid (ev_step h0 h8 x A k)
          generalize RS (evN x A k) (P f) = X at *
          go_wp2
          go_quiet ((first | (go_at_call 62; exact quiet_left (sPower f x k _)) | (go_at_call 35; exact quiet_left (sMul f (A k) (mPower f x k) _)) | (go_at_call 34; exact quiet_left (sAdd f X (mMul f (A k) (mPower f x k)) _))))
          go_wp2
          go_roundw
          case rel => exact ⟨k + 1, by go_num, by omega, vint HE.out, below_drewN hb _⟩
          case measure => simp [intOf]; omega
        · have hd : decide (k < n) = false := by simpa using h1
          obtain rfl : k = n := by omega
          go_wp2
          go_ret
          exact ⟨rfl, hb⟩
  · rw [pok_not.2 hk] at R1
    rw [show mEvalPoly f l x = -1 by unfold mEvalPoly; rw [if_neg hk]]
    clear hk hs
    go_enter Tryd.func30, Tryd.ntmps30
    go_wp2_with fail
    refine R1.mono ?_
    rintro e w' ⟨rfl, rfl⟩
    go_wp2
    go_ret
    exact ⟨rfl, Below.refl _ _⟩
end Go.Proofs.YtangofjpnhhfeabDoor
namespace Go.Proofs.YtangofjpnhhfeabDoor
open Go.RowKit
theorem inverse_c (n a : Int) (w : World) (ht : Tab w) (h0 : 0 ≤ n) (h8 : n ≤ 8) (ha : 0 ≤ a) (ha2 : a < P n) : Calls Tryd.prog 112 #[.int .i64 n, .int .i64 a] w fun e w' => e = .returned (.int .i64 (PW (P n) a (P n - 2))) ∧ w = w' := by
  have hp := P_bd h0 h8
  go_enter Tryd.func112, Tryd.ntmps112
  go_wp2_with fail
  refine (prime_c n w ht h0 h8).mono ?_
  rintro e w' ⟨rfl, rfl⟩
  go_wp2_with fail
  refine (power_c n a (P n - 2) w ht h0 h8 ha ha2 (by omega) (by omega)).mono ?_
  rintro e w' ⟨rfl, rfl⟩
  go_wp2
  go_ret
  exact ⟨rfl, rfl⟩
theorem inverse_inv {f x : Int} (h0 : 0 ≤ f) (h8 : f ≤ 8) (x0 : 0 < x) (x1 : x < P f) : PW (P f) x (P f - 2) = invF f x := by
  have hp := P_bd h0 h8
  have b := PW_bd (m := P f) (x := x) (e := P f - 2) (by omega)
  refine inv_unique h0 h8 b.1 b.2 ?_ ?_
  · rw [RS_self (by omega) x1]; omega
  · rw [RS_self (by omega) x1]; exact back_first h0 h8 x0 x1
theorem quo_len {f : Int} (h0 : 0 ≤ f) (h8 : f ≤ 8) {a b q r : List Int} (ha : Pol f a) (hb : Pol f b) (hle : b.length ≤ a.length) (h : DivP f a b q r) : q.length + b.length = a.length + 1 := by
  have h1 := div_len h0 h8 hb h
  have hr := h.2.2.1
  by_cases hlt : a.length + 1 ≤ q.length + b.length
  · omega
  · exfalso
    have ht := top_nz h0 h8 ha (by omega)
    rw [h.2.2.2 (a.length - 1), lf_out r (by omega), cv_out (fun j h => lf_out q h) (fun j h => lf_out b h) (by omega)] at ht
    simp at ht
def upd (Q : Nat → Int) (s : Nat) (m : Int) : Nat → Int := fun j => if j = s then m else Q j
theorem DivAt.stepK {f : Int} (h0 : 0 ≤ f) (h8 : f ≤ 8) {A : Nat → Int} {b : List Int} {s k : Nat} {Q R : Nat → Int} {inv : Int} (hk : b.length = k + 1) (hinv : (lf b k * inv) % P f = 1 % P f) (h : DivAt f A b (s + k + 1) Q R) :
    DivAt f A b (s + k) (upd Q s (RS (R (s + k) * inv) (P f))) (dst f b R (RS (R (s + k) * inv) (P f)) s (k + 1)) := by
  have e1 : s + k + 1 = s + b.length := by omega
  rw [e1] at h
  have := h.step h0 h8 (by omega) (inv := inv) (by rw [hk]; exact hinv)
  rw [hk, show s + (k + 1) - 1 = s + k by omega, show k + 1 - 1 = k by omega] at this
  exact this
theorem own_upd {w : World} {g n s : Nat} {Q : Nat → Int} {m : Int} (h : Own w g n Q) : Own (w.setCell ⟨g, s, none⟩ (.int .i64 m)) g n (upd Q s m) := by
  refine (World.rowIs.set h s (.int .i64 m)).congr fun j _ => ?_
  unfold upd
  split <;> rfl
theorem own_dst {f : Int} {w : World} {g n s i : Nat} {b : List Int} {R : Nat → Int} {m : Int} (h : Own w g n (dst f b R m s i)) : Own (w.setCell ⟨g, s + i, none⟩ (.int .i64 (RS (R (s + i) - RS (m * lf b i) (P f)) (P f)))) g n (dst f b R m s (i + 1)) := by
  refine (World.rowIs.set h (s + i) (.int .i64 _)).congr fun j _ => ?_
  rw [dst_succ]
  split <;> rfl
/-- What a division answers. -/
def DivR (f : Int) (l m : List Int) (w : World) (e : Ending) (w' : World) : Prop := ∃ gq gr q r, e = .returned (.tuple #[.slice (some ⟨gq, 0, none⟩) (List.length q) (List.length q), .slice (some ⟨gr, 0, none⟩) (List.length r) (List.length r)]) ∧ DivP f l m q r ∧ w.heap.size ≤ gq ∧ gq < gr ∧ Own w' gq (List.length q) (lf q) ∧ Own w' gr (List.length r) (lf r) ∧ Below w.heap.size w w'
theorem div_finish {f : Int} (h0 : 0 ≤ f) (h8 : f ≤ 8) {l m : List Int} (hl : Pol f l) (hm : Pol f m) {w w' : World} {gq gr n' M : Nat} {Q R : Nat → Int} (hd : DivAt f (lf l) m n' Q R) (hn : n' < m.length) (hn2 : n' ≤ l.length) (hM : (m.length ≤ l.length ∧ M + m.length = l.length + 1) ∨ (l.length < m.length ∧ M = 0)) (hQ : ∀ j, M ≤ j → Q j = 0)
    (hB : w.heap.size ≤ gq) (hlt : gq < gr) (hoq : Own w' gq M Q) (hor : Own w' gr (cutL l.length R).length (lf (cutL l.length R))) (hb : Below w.heap.size w w') :
    DivR f l m w (.returned (.tuple #[.slice (some ⟨gq, 0, none⟩) M M, .slice (some ⟨gr, 0, none⟩) (cutL l.length R).length (cutL l.length R).length])) w' := by
  have hp := P_pos h0 h8
  have hdiv := hd.divP (N := l.length) (M := M) hp hn hn2 hQ
  have hq : (cutL M Q).length = M := by
    rcases hM with ⟨h1, h2⟩ | ⟨h1, h2⟩
    · have := quo_len h0 h8 hl hm h1 hdiv
      omega
    · rw [h2]; rfl
  refine ⟨gq, gr, cutL M Q, cutL l.length R, by rw [hq], hdiv, hB, hlt, own_congr hoq hq.symm (fun j hj => ?_), hor, hb⟩
  rw [lf_cutL, if_pos hj]
end Go.Proofs.YtangofjpnhhfeabDoor
namespace Go.Proofs.YtangofjpnhhfeabDoor
open Go.RowKit
set_option maxRecDepth 100000 in
set_option maxHeartbeats 6400000 in
theorem divide_lt (f : Int) (a : Option Addr) (b2 off2 k : Nat) (l m : List Int) (cap cap2 : Nat) (w : World) (ht : Tab w) (h0 : 0 ≤ f) (h8 : f ≤ 8) (hn : l.length ≤ 4096) (hk : m.length = k + 1) (hk2 : k + 1 ≤ 4096) (hlt : l.length < k) (hl : Pol f l) (hm : Pol f m) (hs : Src w a l.length (lf l)) (hlt2 : b2 < w.heap.size) (hc2 : ∀ j, j < k + 1 → w.cell? ⟨b2, off2 + j, none⟩ = some (.int .i64 (lf m j))) :
    Calls Tryd.prog 103 #[.int .i64 f, .slice a l.length cap, .slice (some ⟨b2, off2, none⟩) (k + 1) cap2] w (DivR f l m w) := by
  have hp := P_bd h0 h8
  have HP := Lib.hid fun (w1 : World) (hb : Below w.heap.size w w1) => poly_c a l.length cap (lf l) w1 (by omega) (hs.keep hb)
  have hE : Hid (cutL l.length (lf l) = l) := Lib.hid (cut_self hl)
  have bm := hm.1 k
  have HC2 := Lib.hid hc2
  have HB := Lib.hid hm.1
  have bmz : lf m k ≠ 0 := by
    rcases hm.2 with h | h
    · omega
    · rw [hk] at h; exact h
  have HINV : Hid ((lf m k * PW (P f) (lf m k) (P f - 2)) % P f = 1 % P f) := Lib.hid (by
    rw [inverse_inv h0 h8 (by omega) bm.2]
    have := inv_top h0 h8 hm (by omega)
    rw [hk, show k + 1 - 1 = k by omega] at this
    exact this)
  have BI := PW_bd (m := P f) (x := lf m k) (e := P f - 2) (by omega)
  rw [hE.out] at HP
  clear hs hc2
  have hmk := made0
  have hlt' : (l.length : Int) < k := by omega
  go_enter Tryd.func103, Tryd.ntmps103
  go_wp2_with fail
  go_step3
  go_wp2_with fail
  have hb1 : Below w.heap.size w (w.alloc (.cells (madeCells #[.int .i64 0] 0) 3)) := (Below.refl _ _).alloc (Nat.le_refl _) _
  have HQ0 : Hid (Own (w.alloc (.cells (madeCells #[.int .i64 0] 0) 3)) w.heap.size 0 (fun _ => 0)) := Lib.hid (own_congr (World.rowIs_made w (.int .i64 0) 0 3) rfl (fun j _ => rfl))
  refine (HP.out _ hb1).mono ?_
  rintro e w1 ⟨gr, rfl, hgr, hO, hB⟩
  rw [World.size_alloc] at hgr
  have hBw := below_up hb1 hB (by simp)
  have c2 : w1.cell? ⟨b2, off2 + k, none⟩ = some (.int .i64 (lf m k)) := (hBw.cell (p := ⟨b2, off2 + k, none⟩) hlt2).trans (HC2.out k (by omega))
  have HQ1 := Lib.hid (HQ0.out.keep hB)
  have HR1 := Lib.hid hO
  clear hO HQ0 hB hb1 HP
  go_wp2_with fail
  refine (inverse_c f (lf m k) w1 (ht.below hBw) h0 h8 bm.1 bm.2).mono ?_
  rintro e w' ⟨rfl, rfl⟩
  go_wp2_with fail
  go_step3
  go_wp2_with fail
  refine wp_loop_rounds 1 ?_
  rw [rounds_succ]
  go_wp2_with fail
  refine (poly_c (some ⟨gr, 0, none⟩) l.length l.length (lf l) w1 (by omega) HR1.out.src).mono ?_
  rw [hE.out]
  rintro e w2 ⟨g2, rfl, hg2, hO2, hB2⟩
  have hlt1 := HR1.out.lt
  have HF : Hid (DivR f l m w (.returned (.tuple #[.slice (some ⟨w.heap.size, 0, none⟩) 0 0, .slice (some ⟨g2, 0, none⟩) l.length l.length])) w2) := Lib.hid (by
    have := div_finish h0 h8 hl hm (w := w) (w' := w2) (gq := w.heap.size) (gr := g2) (M := 0) (DivAt.start hl (P_pos h0 h8)) (by omega) (Nat.le_refl _) (.inr ⟨by omega, rfl⟩) (fun _ _ => rfl) (Nat.le_refl _) (by omega) (HQ1.out.keep hB2) (by rw [hE.out]; exact hO2) (below_up hBw hB2 hBw.size)
    rw [hE.out] at this
    exact this)
  clear hO2
  go_wp2
  (try rw [Exit.noGoto_ret])
  go_ret2
  exact HF.out
set_option maxRecDepth 100000 in
set_option maxHeartbeats 6400000 in
theorem divide_eq (f : Int) (a : Option Addr) (b2 off2 k : Nat) (l m : List Int) (cap cap2 : Nat) (w : World) (ht : Tab w) (h0 : 0 ≤ f) (h8 : f ≤ 8) (_hn : l.length ≤ 4096) (hk : m.length = k + 1) (hk2 : k + 1 ≤ 4096) (hlt : l.length ≤ k) (hlt3 : k ≤ l.length) (hl : Pol f l) (hm : Pol f m) (hs : Src w a l.length (lf l)) (hlt2 : b2 < w.heap.size) (hc2 : ∀ j, j < k + 1 → w.cell? ⟨b2, off2 + j, none⟩ = some (.int .i64 (lf m j))) :
    Calls Tryd.prog 103 #[.int .i64 f, .slice a l.length cap, .slice (some ⟨b2, off2, none⟩) (k + 1) cap2] w (DivR f l m w) := by
  have hp := P_bd h0 h8
  have HP := Lib.hid fun (w1 : World) (hb : Below w.heap.size w w1) => poly_c a l.length cap (lf l) w1 (by omega) (hs.keep hb)
  have hE : Hid (cutL l.length (lf l) = l) := Lib.hid (cut_self hl)
  have bm := hm.1 k
  have HC2 := Lib.hid hc2
  have HB := Lib.hid hm.1
  have bmz : lf m k ≠ 0 := by
    rcases hm.2 with h | h
    · omega
    · rw [hk] at h; exact h
  have HINV : Hid ((lf m k * PW (P f) (lf m k) (P f - 2)) % P f = 1 % P f) := Lib.hid (by
    rw [inverse_inv h0 h8 (by omega) bm.2]
    have := inv_top h0 h8 hm (by omega)
    rw [hk, show k + 1 - 1 = k by omega] at this
    exact this)
  have BI := PW_bd (m := P f) (x := lf m k) (e := P f - 2) (by omega)
  rw [hE.out] at HP
  clear hs hc2
  have hmk0 := made0
  have hmk : ∀ w, (Instr.makeSlice 22 (.int .i64 ((l.length : Int) - ((k : Int) + 1) + 1)) (.int .i64 ((l.length : Int) - ((k : Int) + 1) + 1))).run Tryd.prog w = .ok (.slice (some ⟨w.heap.size, 0, none⟩) 0 0) (w.alloc (.cells (madeCells #[.int .i64 0] 0) 3)) := fun w => by
    rw [show ((l.length : Int) - ((k : Int) + 1) + 1) = 0 by omega]; exact made0 w
  go_enter Tryd.func103, Tryd.ntmps103
  go_wp2_with fail
  go_step3
  go_wp2_with fail
  have hb1 : Below w.heap.size w (w.alloc (.cells (madeCells #[.int .i64 0] 0) 3)) := (Below.refl _ _).alloc (Nat.le_refl _) _
  have HQ0 : Hid (Own (w.alloc (.cells (madeCells #[.int .i64 0] 0) 3)) w.heap.size 0 (fun _ => 0)) := Lib.hid (own_congr (World.rowIs_made w (.int .i64 0) 0 3) rfl (fun j _ => rfl))
  refine (HP.out _ hb1).mono ?_
  rintro e w1 ⟨gr, rfl, hgr, hO, hB⟩
  rw [World.size_alloc] at hgr
  have hBw := below_up hb1 hB (by simp)
  have c2 : w1.cell? ⟨b2, off2 + k, none⟩ = some (.int .i64 (lf m k)) := (hBw.cell (p := ⟨b2, off2 + k, none⟩) hlt2).trans (HC2.out k (by omega))
  have HQ1 := Lib.hid (HQ0.out.keep hB)
  have HR1 := Lib.hid hO
  clear hO HQ0 hB hb1 HP
  go_wp2_with fail
  refine (inverse_c f (lf m k) w1 (ht.below hBw) h0 h8 bm.1 bm.2).mono ?_
  rintro e w' ⟨rfl, rfl⟩
  go_wp2_with fail
  go_step3
  go_wp2_with fail
  refine wp_loop_rounds 1 ?_
  rw [rounds_succ]
  go_wp2_with fail
  refine (poly_c (some ⟨gr, 0, none⟩) l.length l.length (lf l) w1 (by omega) HR1.out.src).mono ?_
  rw [hE.out]
  rintro e w2 ⟨g2, rfl, hg2, hO2, hB2⟩
  have hlt1 := HR1.out.lt
  have HF : Hid (DivR f l m w (.returned (.tuple #[.slice (some ⟨w.heap.size, 0, none⟩) 0 0, .slice (some ⟨g2, 0, none⟩) l.length l.length])) w2) := Lib.hid (by
    have := div_finish h0 h8 hl hm (w := w) (w' := w2) (gq := w.heap.size) (gr := g2) (M := 0) (DivAt.start hl (P_pos h0 h8)) (by omega) (Nat.le_refl _) (.inr ⟨by omega, rfl⟩) (fun _ _ => rfl) (Nat.le_refl _) (by omega) (HQ1.out.keep hB2) (by rw [hE.out]; exact hO2) (below_up hBw hB2 hBw.size)
    rw [hE.out] at this
    exact this)
  clear hO2
  go_wp2
  (try rw [Exit.noGoto_ret])
  go_ret2
  exact HF.out
set_option maxRecDepth 100000 in
set_option maxHeartbeats 6400000 in
theorem divide_ge (f : Int) (a : Option Addr) (b2 off2 k : Nat) (l m : List Int) (cap cap2 : Nat) (w : World) (ht : Tab w) (h0 : 0 ≤ f) (h8 : f ≤ 8) (hn : l.length ≤ 4096) (hk : m.length = k + 1) (hk2 : k + 1 ≤ 4096) (M : Nat) (hlt : M + k = l.length) (hM : 0 < M) (hl : Pol f l) (hm : Pol f m) (hs : Src w a l.length (lf l)) (hlt2 : b2 < w.heap.size) (hc2 : ∀ j, j < k + 1 → w.cell? ⟨b2, off2 + j, none⟩ = some (.int .i64 (lf m j))) :
    Calls Tryd.prog 103 #[.int .i64 f, .slice a l.length cap, .slice (some ⟨b2, off2, none⟩) (k + 1) cap2] w (DivR f l m w) := by
  have hp := P_bd h0 h8
  have HP := Lib.hid fun (w1 : World) (hb : Below w.heap.size w w1) => poly_c a l.length cap (lf l) w1 (by omega) (hs.keep hb)
  have hE : Hid (cutL l.length (lf l) = l) := Lib.hid (cut_self hl)
  have bm := hm.1 k
  have HC2 := Lib.hid hc2
  have HB := Lib.hid hm.1
  have bmz : lf m k ≠ 0 := by
    rcases hm.2 with h | h
    · omega
    · rw [hk] at h; exact h
  have HINV : Hid ((lf m k * PW (P f) (lf m k) (P f - 2)) % P f = 1 % P f) := Lib.hid (by
    rw [inverse_inv h0 h8 (by omega) bm.2]
    have := inv_top h0 h8 hm (by omega)
    rw [hk, show k + 1 - 1 = k by omega] at this
    exact this)
  have BI := PW_bd (m := P f) (x := lf m k) (e := P f - 2) (by omega)
  rw [hE.out] at HP
  clear hs hc2
  have hmk : ∀ w, (Instr.makeSlice 22 (.int .i64 ((l.length : Int) - ((k : Int) + 1) + 1)) (.int .i64 ((l.length : Int) - ((k : Int) + 1) + 1))).run Tryd.prog w = .ok (.slice (some ⟨w.heap.size, 0, none⟩) M M) (w.alloc (.cells (madeCells #[.int .i64 0] M) 3)) := fun w => by
    rw [show ((l.length : Int) - ((k : Int) + 1) + 1) = (M : Int) by omega]; exact made_n M (by omega) w
  go_enter Tryd.func103, Tryd.ntmps103
  go_wp2_with fail
  go_step3
  go_wp2_with fail
  have hb1 : Below w.heap.size w (w.alloc (.cells (madeCells #[.int .i64 0] M) 3)) := (Below.refl _ _).alloc (Nat.le_refl _) _
  have HQ0 : Hid (Own (w.alloc (.cells (madeCells #[.int .i64 0] M) 3)) w.heap.size M (fun _ => 0)) := Lib.hid (own_congr (World.rowIs_made w (.int .i64 0) M 3) rfl (fun j _ => rfl))
  refine (HP.out _ hb1).mono ?_
  rintro e w1 ⟨gr, rfl, hgr, hO, hB⟩
  rw [World.size_alloc] at hgr
  have hBw := below_up hb1 hB (by simp)
  have c2 : w1.cell? ⟨b2, off2 + k, none⟩ = some (.int .i64 (lf m k)) := (hBw.cell (p := ⟨b2, off2 + k, none⟩) hlt2).trans (HC2.out k (by omega))
  have HQ1 := Lib.hid (HQ0.out.keep hB)
  have HR1 := Lib.hid hO
  clear hO HQ0 hB hb1 HP
  go_wp2_with fail
  refine (inverse_c f (lf m k) w1 (ht.below hBw) h0 h8 bm.1 bm.2).mono ?_
  rintro e w' ⟨rfl, rfl⟩
  go_wp2_with fail
  go_step3
  go_wp2_with fail
  clear hmk
  have HFIN : Hid (∀ (wr w2 : World) (g2 n' : Nat) (Q R : Nat → Int), DivAt f (lf l) m n' Q R → n' < k + 1 → n' ≤ l.length → (∀ j, M ≤ j → Q j = 0) → w.heap.size < g2 → Own w2 w.heap.size M Q → Own w2 g2 (cutL l.length R).length (lf (cutL l.length R)) → Below w.heap.size w w2 →
      DivR f l m w (.returned (.tuple #[.slice (some ⟨w.heap.size, 0, none⟩) M M, .slice (some ⟨g2, 0, none⟩) (cutL l.length R).length (cutL l.length R).length])) w2) := Lib.hid fun wr w2 g2 n' Q R hd h1 h2 hQ hg ho1 ho2 hb =>
    div_finish h0 h8 hl hm hd (by omega) h2 (.inl ⟨by omega, by omega⟩) hQ (Nat.le_refl _) hg ho1 ho2 hb
  have HSTEP : Hid (∀ (s : Nat) (Q R : Nat → Int), DivAt f (lf l) m (s + k + 1) Q R → DivAt f (lf l) m (s + k) (upd Q s (RS (R (s + k) * PW (P f) (lf m k) (P f - 2)) (P f))) (dst f m R (RS (R (s + k) * PW (P f) (lf m k) (P f - 2)) (P f)) s (k + 1))) := Lib.hid fun s Q R h => h.stepK h0 h8 hk HINV.out
  have HST : Hid (DivAt f (lf l) m l.length (fun _ => 0) (lf l)) := Lib.hid (DivAt.start hl (P_pos h0 h8))
  generalize PW (P f) (lf m k) (P f - 2) = V at *
  clear HINV hE bmz
  have hgr1 : w.heap.size < gr := by omega
  go_loopw [12, 13, 14, 15] (fun sh _ _ _ wr => ∃ (sI : Int) (n' : Nat) (Q R : Nat → Int), sh = .int .i64 sI ∧ sI + k + 1 = n' ∧ n' ≤ l.length ∧ Hid (DivAt f (lf l) m n' Q R) ∧ Hid (∀ j, M ≤ j → Q j = 0) ∧ Own wr w.heap.size M Q ∧ Own wr gr l.length R ∧ Below w.heap.size w wr) (fun sh _ _ _ _ => (intOf sh + 1).toNat)
  case atStart => exact ⟨_, l.length, fun _ => 0, lf l, rfl, by omega, Nat.le_refl _, HST, Lib.hid (fun _ _ => rfl), HQ1.out, HR1.out, hBw⟩
  case round =>
    clear HQ1 HR1 hBw c2 HST
    obtain ⟨sI, n', Q, R, rfl, hsn, hnn, HD, HZ, hoq, hor, hb⟩ := hrel
    by_cases hs0 : 0 ≤ sI
    · obtain ⟨s, rfl⟩ := Int.eq_ofNat_of_zero_le hs0
      obtain rfl : n' = s + k + 1 := by omega
      have hsk : s + k < l.length := by omega
      have hsM : s < M := by omega
      have cR := World.rowIs.cell hor hsk
      have bR := HD.out.2.1 (s + k)
      have cQ := World.rowIs.cell hoq hsM
      have fQ := World.rowIs.frozen hoq s
      have HT := Lib.hid (ht.below hb)
      have bfac := RS_bd (x := R (s + k) * V) (m := P f) (by omega)
      have HN := Lib.hid (HSTEP.out s Q R HD.out)
      have HQ' := Lib.hid (own_upd (s := s) (m := RS (R (s + k) * V) (P f)) hoq)
      have HR' := Lib.hid (own_other (k := s) (v := .int .i64 (RS (R (s + k) * V) (P f))) hor (show gr ≠ w.heap.size by omega))
      have HB' := Lib.hid (hb.setCell (p := ⟨w.heap.size, s, none⟩) (Nat.le_refl _) (.int .i64 (RS (R (s + k) * V) (P f))))
      have HZ' : Hid (∀ j, M ≤ j → upd Q s (RS (R (s + k) * V) (P f)) j = 0) := Lib.hid (fun j hj => by unfold upd; rw [if_neg (by omega)]; exact HZ.out j hj)
      have HRb := Lib.hid HD.out.2.1
      clear HD HZ hoq hor
      go_wp2_with fail
      refine (mul_c f (R (s + k)) V wr HT.out h0 h8 bR.1 bR.2 BI.1 BI.2).mono ?_
      rintro e w' ⟨rfl, rfl⟩
      generalize hfac : RS (R (s + k) * V) (P f) = fac at *
      go_wp2_with fail
      obtain ⟨W1, hW1⟩ : ∃ W1, wr.setCell ⟨w.heap.size, s, none⟩ (.int .i64 fac) = W1 := ⟨_, rfl⟩
      rw [hW1] at HQ' HR' HB' ⊢
      have HR2 : Hid (Own W1 gr l.length (dst f m R fac s 0)) := Lib.hid (own_congr HR'.out rfl (fun j _ => (dst_zero f m R fac s j).symm))
      clear hW1 HR' cR cQ fQ hb HT
      go_loopw [14, 15, 57] (fun _ _ i W => ∃ j : Nat, i = .int .i64 j ∧ j ≤ k + 1 ∧ Own W gr l.length (dst f m R fac s j) ∧ Own W w.heap.size M (upd Q s fac) ∧ Below w.heap.size w W) (fun _ _ i _ => k + 1 - (intOf i).toNat)
      case atStart => exact ⟨0, rfl, Nat.zero_le _, HR2.out, HQ'.out, HB'.out⟩
      case round =>
        clear HR2 HQ' HB'
        obtain ⟨j, rfl, hj, hor, hoq, hb⟩ := hrel
        by_cases hjk : j < k + 1
        · have hdj : decide ((j : Int) < (k : Int) + 1) = true := decide_eq_true (by omega)
          have d2 : wr.cell? ⟨b2, off2 + j, none⟩ = some (.int .i64 (lf m j)) := (hb.cell (p := ⟨b2, off2 + j, none⟩) hlt2).trans (HC2.out j hjk)
          have hsj : s + j < l.length := by omega
          have hor1 : Own wr.drew gr l.length (dst f m R fac s j) := hor
          have hoq1 : Own wr.drew w.heap.size M (upd Q s fac) := hoq
          have hb1 : Below w.heap.size w wr.drew := ⟨hb.os, hb.tape, hb.output, hb.size, hb.block⟩
          have cR := World.rowIs.cell hor hsj
          rw [dst_at] at cR
          have fR := World.rowIs.frozen hor1 (s + j)
          have cR1 := World.rowIs.cell hor1 hsj
          rw [dst_at] at cR1
          have HTw : Hid (Tab wr.drew) := Lib.hid (Tab.keep (ht.below hb) (fun _ => rfl))
          have bR := HRb.out (s + j)
          have bM := HB.out j
          have bX := RS_bd (x := fac * lf m j) (m := P f) (by omega)
          have HS1 := Lib.hid (own_dst hor1)
          have HS2 := Lib.hid (own_other (k := s + j) (v := .int .i64 (RS (R (s + j) - RS (fac * lf m j) (P f)) (P f))) hoq1 (show w.heap.size ≠ gr by omega))
          have HS3 := Lib.hid (hb1.setCell (p := ⟨gr, s + j, none⟩) (show w.heap.size ≤ gr by omega) (.int .i64 (RS (R (s + j) - RS (fac * lf m j) (P f)) (P f))))
          have hw : IntKind.i64.wrap ((s : Int) + j) = (s : Int) + j := IntWalk.i64_in _ (by omega)
          have hi1 : (0 : Int) ≤ (s : Int) + j := by omega
          have hi2 : (s : Int) + j < (l.length : Int) := by omega
          have hi3 : ((s : Int) + j).toNat = s + j := by omega
          clear hor hoq hor1 hoq1
          go_wp2
          refine wp_region_still_tail 17 (by kernel_rfl) (by kernel_rfl) ?_
          simp only [List.take_succ_cons, List.take_zero, List.drop_succ_cons, List.drop_zero]
          still_step
          still_step
          still_step
          still_step
          still_step
          still_step
          still_step
          still_step
          still_step
          still_step
          still_step
          still_step
          still_step
          still_step
          still_call ((mul_c f fac (lf m j) wr.drew HTw.out h0 h8 bfac.1 bfac.2 bM.1 bM.2).mono fun _ _ h => ⟨h.1, h.2.symm⟩)
          still_call ((sub_c f (R (s + j)) (RS (fac * lf m j) (P f)) wr.drew HTw.out h0 h8 bR.1 bR.2 bX.1 bX.2).mono fun _ _ h => ⟨h.1, h.2.symm⟩)
          still_step
          refine wpStill_nil ?_
          change wpList _ _ _ _ _ wr.drew
          clear hw hi1 hi2 hi3 cR d2
          generalize wr.drew = W2 at *
          go_wp2
          go_roundw
          case rel => exact ⟨j + 1, by go_num, by omega, HS1.out, HS2.out, HS3.out⟩
          case measure => simp [intOf] <;> omega
        · have hdj : decide ((j : Int) < (k : Int) + 1) = false := decide_eq_false (by omega)
          obtain rfl : j = k + 1 := by omega
          have HOR := Lib.hid hor
          have HOQ := Lib.hid hoq
          clear hor hoq
          generalize dst f m R fac s (k + 1) = R' at *
          generalize upd Q s fac = Q' at *
          go_wp2_with fail
          go_loop [12] (fun sh => ∃ (u t : Nat), sh = .int .i64 u ∧ t = u + k + 1 ∧ t ≤ s + k + 1 ∧ Hid ((t = s + k + 1 ∧ DivAt f (lf l) m (u + k) Q' R') ∨ (t < s + k + 1 ∧ DivAt f (lf l) m t Q' R'))) (fun sh => (intOf sh).toNat)
          case atStart => exact ⟨s, s + k + 1, rfl, rfl, Nat.le_refl _, Lib.hid (.inl ⟨rfl, HN.out⟩)⟩
          case round =>
            clear HN
            obtain ⟨u, t, rfl, ht1, ht2, HD2⟩ := hrel
            have huk : u + k < l.length := by omega
            have cR := World.rowIs.cell HOR.out huk
            by_cases hz : R' (u + k) = 0
            · have HD3 : Hid (DivAt f (lf l) m (u + k) Q' R') := Lib.hid (by
                rcases HD2.out with ⟨_, h⟩ | ⟨_, h⟩
                · exact h
                · rw [ht1] at h; exact h.skip hz)
              have ez : (R' (u + k) == 0) = true := by simp [hz]
              clear hz HD2
              by_cases hu : u = 0
              · subst hu
                have HD3' : Hid (DivAt f (lf l) m k Q' R') := Lib.hid (by have := HD3.out; rwa [Nat.zero_add] at this)
                rw [Nat.zero_add] at cR ez
                clear HD3
                have HP2 := Lib.hid (poly_own (u := wr) (by omega) HOR.out (fun j _ => rfl) (Below.refl _ _))
                have hlt1 := HOR.out.lt
                go_wp2_with fail
                refine HP2.out.mono ?_
                rintro e w2 ⟨g2, rfl, hg2, hO2, hB2⟩
                have HF := Lib.hid (HFIN.out wr w2 g2 k Q' R' HD3'.out (by omega) (by omega) HZ'.out (by omega) (HOQ.out.keep hB2) hO2 (below_up hb hB2 hb.size))
                clear hO2 HP2
                go_wp2
                (try rw [Exit.noGoto_ret])
                go_ret2
                exact HF.out
              · obtain ⟨v, rfl⟩ : ∃ v, u = v + 1 := ⟨u - 1, by omega⟩
                have HD4 : Hid ((v + k + 1 = s + k + 1 ∧ DivAt f (lf l) m (v + k) Q' R') ∨ (v + k + 1 < s + k + 1 ∧ DivAt f (lf l) m (v + k + 1) Q' R')) := Lib.hid (.inr ⟨by omega, by have := HD3.out; rwa [show v + 1 + k = v + k + 1 by omega] at this⟩)
                clear HD3
                go_wp2
                go_round
                case rel => exact ⟨v, v + k + 1, by go_num, rfl, by omega, HD4⟩
                case measure => simp [intOf] <;> omega
            · have ez : (R' (u + k) == 0) = false := by simp [hz]
              have HD3 : Hid (t < s + k + 1 ∧ DivAt f (lf l) m t Q' R') := Lib.hid (by
                rcases HD2.out with ⟨_, h⟩ | h
                · exact absurd (h.2.2.2.1 (u + k) (Nat.le_refl _)) hz
                · exact h)
              have hlt4 := HD3.out.1
              clear hz HD2
              go_wp2
              go_roundw
              case rel => exact ⟨u, t, Q', R', rfl, by omega, by omega, Lib.hid HD3.out.2, HZ', HOQ.out, HOR.out, hb⟩
              case measure => simp [intOf] <;> omega
    · have hd0 : decide ((0 : Int) ≤ sI) = false := decide_eq_false hs0
      have HP2 := Lib.hid (poly_own (u := wr) (by omega) hor (fun j _ => rfl) (Below.refl _ _))
      have hlt1 := hor.lt
      have HO := Lib.hid hoq
      clear hoq hor
      go_wp2_with fail
      refine HP2.out.mono ?_
      rintro e w2 ⟨g2, rfl, hg2, hO2, hB2⟩
      have HF := Lib.hid (HFIN.out wr w2 g2 n' Q R HD.out (by omega) hnn HZ.out (by omega) (HO.out.keep hB2) hO2 (below_up hb hB2 hb.size))
      clear hO2 HP2
      go_wp2
      (try rw [Exit.noGoto_ret])
      go_ret2
      exact HF.out
end Go.Proofs.YtangofjpnhhfeabDoor
namespace Go.Proofs.YtangofjpnhhfeabDoor
open Go.RowKit
theorem divide_c (f : Int) (a a2 : Option Addr) (l m : List Int) (cap cap2 : Nat) (w : World) (ht : Tab w) (h0 : 0 ≤ f) (h8 : f ≤ 8) (hn : l.length ≤ 4096) (hn2 : m.length ≤ 4096) (hz : m.length ≠ 0) (hl : Pol f l) (hm : Pol f m) (hs : Src w a l.length (lf l)) (hs2 : Src w a2 m.length (lf m)) :
    Calls Tryd.prog 103 #[.int .i64 f, .slice a l.length cap, .slice a2 m.length cap2] w (DivR f l m w) := by
  obtain ⟨k, hk⟩ : ∃ k, m.length = k + 1 := ⟨m.length - 1, by omega⟩
  rcases hs2 with h | ⟨b2, off2, rfl, hlt2, hc2⟩
  · exact absurd h hz
  · have hk2 : k + 1 ≤ 4096 := by omega
    rw [hk] at hc2
    have e : #[Value.int .i64 f, .slice a l.length cap, .slice (some ⟨b2, off2, none⟩) m.length cap2] = #[Value.int .i64 f, .slice a l.length cap, .slice (some ⟨b2, off2, none⟩) (k + 1) cap2] := by rw [hk]
    rw [e]
    rcases Nat.lt_trichotomy l.length k with h | h | h
    · exact divide_lt f a b2 off2 k l m cap cap2 w ht h0 h8 hn hk hk2 h hl hm hs hlt2 hc2
    · exact divide_eq f a b2 off2 k l m cap cap2 w ht h0 h8 hn hk hk2 (by omega) (by omega) hl hm hs hlt2 hc2
    · exact divide_ge f a b2 off2 k l m cap cap2 w ht h0 h8 hn hk hk2 (l.length - k) (by omega) (by omega) hl hm hs hlt2 hc2
set_option maxRecDepth 100000 in
theorem remainder_c (f : Int) (a a2 : Option Addr) (l m : List Int) (cap cap2 : Nat) (w : World) (ht : Tab w) (h0 : 0 ≤ f) (h8 : f ≤ 8) (hn : l.length ≤ 4096) (hn2 : m.length ≤ 4096) (hz : m.length ≠ 0) (hl : Pol f l) (hm : Pol f m) (hs : Src w a l.length (lf l)) (hs2 : Src w a2 m.length (lf m)) :
    Calls Tryd.prog 90 #[.int .i64 f, .slice a l.length cap, .slice a2 m.length cap2] w (OwnG w (remL f l m)) := by
  have HD := Lib.hid (divide_c f a a2 l m cap cap2 w ht h0 h8 hn hn2 hz hl hm hs hs2)
  have HU : Hid (∀ q r, DivP f l m q r → remL f l m = r) := Lib.hid fun q r h => remL_eq h0 h8 hm h.isRem
  clear hs hs2
  go_enter Tryd.func90, Tryd.ntmps90
  go_wp2_with fail
  refine HD.out.mono ?_
  rintro e w2 ⟨gq, gr, q, r, rfl, hdiv, h1, h2, h3, h4, hb⟩
  have HE := Lib.hid (HU.out q r hdiv)
  have HO := Lib.hid h4
  clear h3 h4 hdiv HU
  go_wp2
  go_ret
  exact ⟨gr, by rw [HE.out]; rfl, by omega, by rw [HE.out]; exact HO.out, hb⟩
/-- A row with room: the first n cells are known. -/
def OwnV (w : World) (g n cap : Nat) (F : Nat → Int) : Prop := ∃ V, w.rowIs g 3 cap V ∧ n ≤ cap ∧ ∀ j, j < n → V j = .int .i64 (F j)
theorem OwnV.cell {w : World} {g n cap : Nat} {F : Nat → Int} (h : OwnV w g n cap F) {j : Nat} (hj : j < n) : w.cell? ⟨g, j, none⟩ = some (.int .i64 (F j)) := by
  obtain ⟨V, h1, h2, h3⟩ := h
  rw [← h3 j hj]
  exact World.rowIs.cell h1 (by omega)
theorem OwnV.frozen {w : World} {g n cap : Nat} {F : Nat → Int} (h : OwnV w g n cap F) (j : Nat) : w.frozen? ⟨g, j, none⟩ = false := by
  obtain ⟨V, h1, h2, h3⟩ := h
  exact World.rowIs.frozen h1 j
theorem OwnV.lt {w : World} {g n cap : Nat} {F : Nat → Int} (h : OwnV w g n cap F) : g < w.heap.size := by
  obtain ⟨V, h1, _⟩ := h
  exact World.rowIs.lt h1
theorem OwnV.set {w : World} {g n cap s : Nat} {F : Nat → Int} {x : Int} (h : OwnV w g n cap F) : OwnV (w.setCell ⟨g, s, none⟩ (.int .i64 x)) g n cap (upd F s x) := by
  obtain ⟨V, h1, h2, h3⟩ := h
  refine ⟨_, World.rowIs.set h1 s (.int .i64 x), h2, fun j hj => ?_⟩
  unfold upd
  by_cases e : j = s
  · simp [e]
  · simp [e, h3 j hj]
theorem OwnV.other {w : World} {g g2 n cap s : Nat} {F : Nat → Int} {v : Value} (h : OwnV w g n cap F) (hne : g ≠ g2) : OwnV (w.setCell ⟨g2, s, none⟩ v) g n cap F := by
  obtain ⟨V, h1, h2, h3⟩ := h
  exact ⟨V, World.rowIs.setOther h1 (a := ⟨g2, s, none⟩) hne v, h2, h3⟩
theorem OwnV.keep {w w' : World} {g n cap : Nat} {F : Nat → Int} (h : OwnV w g n cap F) (hb : Below w.heap.size w w') : OwnV w' g n cap F := by
  obtain ⟨V, h1, h2, h3⟩ := h
  exact ⟨V, World.rowIs.of_block h1 (hb.block g (World.rowIs.lt h1)), h2, h3⟩
theorem OwnV.congr {w : World} {g n cap : Nat} {F G : Nat → Int} (h : OwnV w g n cap F) (e : ∀ j, j < n → F j = G j) : OwnV w g n cap G := by
  obtain ⟨V, h1, h2, h3⟩ := h
  exact ⟨V, h1, h2, fun j hj => by rw [h3 j hj, e j hj]⟩
theorem OwnV.src {w : World} {g n cap : Nat} {F : Nat → Int} (h : OwnV w g n cap F) : Src w (some ⟨g, 0, none⟩) n F :=
  .inr ⟨g, 0, rfl, h.lt, fun j hj => by rw [Nat.zero_add]; exact h.cell hj⟩
theorem OwnV.of_owns {w : World} {base n : Nat} {v : Value} {F : Nat → Int} (h : w.ownsRow base 3 1 v n (xsF F n)) (hn : n ≠ 0) : ∃ g cap, v = .slice (some ⟨g, 0, none⟩) n cap ∧ base ≤ g ∧ OwnV w g n cap F := by
  obtain ⟨hl, h⟩ := h
  rcases h with ⟨h1, h2⟩ | ⟨g, cap, cur, h1, hg, hh, hc, hm, hs, ht⟩
  · exact absurd h2 hn
  · refine ⟨g, cap, h1, hg, fun j => (cur[j]?).getD .nilIface, ⟨cur, hh, by omega, fun j hj => ?_⟩, hc, fun j hj => ?_⟩
    · have : j < cur.size := by omega
      simp [this]
    · have hx : (xsF F n)[j]? = some (.int .i64 (F j)) := by simp [xsF, hj]
      rw [← ht, List.getElem?_take_of_lt (by omega)] at hx
      have : cur[j]? = some (.int .i64 (F j)) := by simpa using hx
      show (cur[j]?).getD .nilIface = _
      rw [this]; rfl
end Go.Proofs.YtangofjpnhhfeabDoor
namespace Go.Proofs.YtangofjpnhhfeabDoor
open Go.RowKit
theorem src_one (w : World) (x : Int) : Src (w.alloc (.cells #[.int .i64 x] 3)) (some ⟨w.heap.size, 0, none⟩) 1 (fun _ => x) :=
  .inr ⟨w.heap.size, 0, rfl, by simp, fun j hj => by
    obtain rfl : j = 0 := by omega
    rw [World.cell?_alloc_at _ _ _ _ rfl]; rfl⟩
theorem src_one1 (w : World) : Src (w.alloc (.cells #[.int .i64 1] 3)) (some ⟨w.heap.size, 0, none⟩) ([1] : List Int).length (lf [1]) := by
  rcases src_one w 1 with h | ⟨b, off, e, hlt, hc⟩
  · omega
  · refine .inr ⟨b, off, e, hlt, fun j hj => ?_⟩
    have hj2 : j < 1 := hj
    obtain rfl : j = 0 := by omega
    exact hc 0 (by omega)
end Go.Proofs.YtangofjpnhhfeabDoor
namespace Go.Proofs.YtangofjpnhhfeabDoor
open Mth
/-- Field f has a root of order 2^k. -/
def hasK (f k : Int) : Prop := (0 ≤ f ∧ f ≤ 8) ∧ 0 ≤ k ∧ k ≤ T f
instance (f k : Int) : Decidable (hasK f k) := inferInstanceAs (Decidable ((0 ≤ f ∧ f ≤ 8) ∧ 0 ≤ k ∧ k ≤ T f))
theorem hasK_iff (f k : Int) : hasK f k ↔ 0 ≤ k ∧ k ≤ T f := by
  constructor
  · exact fun h => h.2
  · intro h
    refine ⟨?_, h⟩
    by_cases hf : 0 ≤ f ∧ f ≤ 8
    · exact hf
    · have := T_off (f := f) (by omega); omega
/-- Logarithms. -/
def mLog (n : Int) : Int := if n = 1 then 0 else if n = 2 then 1 else if n = 4 then 2 else if n = 8 then 3 else if n = 16 then 4 else if n = 32 then 5 else if n = 64 then 6 else if n = 128 then 7 else if n = 256 then 8 else if n = 512 then 9 else -1
theorem ten {k : Nat} (h : k ≤ 9) : k = 0 ∨ k = 1 ∨ k = 2 ∨ k = 3 ∨ k = 4 ∨ k = 5 ∨ k = 6 ∨ k = 7 ∨ k = 8 ∨ k = 9 := by omega
theorem log_at {k : Nat} (h : k ≤ 9) : mLog (2 ^ k) = k := by
  rcases ten h with rfl | rfl | rfl | rfl | rfl | rfl | rfl | rfl | rfl | rfl <;> decide
theorem log_off {n : Int} (h : ∀ k : Nat, k ≤ 9 → n ≠ 2 ^ k) : mLog n = -1 := by
  have h0 := h 0 (by omega); have h1 := h 1 (by omega); have h2 := h 2 (by omega); have h3 := h 3 (by omega); have h4 := h 4 (by omega)
  have h5 := h 5 (by omega); have h6 := h 6 (by omega); have h7 := h 7 (by omega); have h8 := h 8 (by omega); have h9 := h 9 (by omega)
  simp at h0 h1 h2 h3 h4 h5 h6 h7 h8 h9
  simp [mLog, h0, h1, h2, h3, h4, h5, h6, h7, h8, h9]
theorem log_cases (n : Int) : (∃ k : Nat, k ≤ 9 ∧ n = 2 ^ k ∧ mLog n = k) ∨ ((∀ k : Nat, k ≤ 9 → n ≠ 2 ^ k) ∧ mLog n = -1) := by
  by_cases h : ∃ k : Nat, k ≤ 9 ∧ n = 2 ^ k
  · obtain ⟨k, hk, rfl⟩ := h
    exact .inl ⟨k, hk, rfl, log_at hk⟩
  · have h2 : ∀ k : Nat, k ≤ 9 → n ≠ 2 ^ k := fun k hk e => h ⟨k, hk, e⟩
    exact .inr ⟨h2, log_off h2⟩
/-- The first j bits of x, the lowest first. -/
def rv (x : Nat) : Nat → Nat
  | 0 => 0
  | j + 1 => 2 * rv x j + x / 2 ^ j % 2
end Go.Proofs.YtangofjpnhhfeabDoor
namespace Go.Proofs.YtangofjpnhhfeabDoor
open Mth
theorem sumN_mod {p : Int} {f g : Nat → Int} {n : Nat} (h : ∀ i, i < n → f i % p = g i % p) : sumN f n % p = sumN g n % p := by
  induction n with
  | zero => rfl
  | succ n ih => rw [sumN, sumN]; exact emod_add_congr (ih fun i hi => h i (by omega)) (h n (by omega))
theorem sumN_mul_r (c : Int) (g : Nat → Int) (n : Nat) : sumN (fun i => g i * c) n = sumN g n * c := by
  rw [Int.mul_comm (sumN g n), ← sumN_mul]
  exact sumN_congr fun i _ => Int.mul_comm _ _
/-- Even and odd places. -/
theorem sumN_even (F : Nat → Int) (h : Nat) : sumN F (2 * h) = sumN (fun u => F (2 * u)) h + sumN (fun u => F (2 * u + 1)) h := by
  induction h with
  | zero => rfl
  | succ h ih => rw [show 2 * (h + 1) = 2 * h + 1 + 1 by omega, sumN, sumN, ih, sumN, sumN]; omega
theorem pow_mod_congr {p a b : Int} (k : Nat) (h : a % p = b % p) : a ^ k % p = b ^ k % p := by
  induction k with
  | zero => rw [Int.pow_zero, Int.pow_zero]
  | succ k ih => rw [Int.pow_succ, Int.pow_succ]; exact emod_mul_congr ih h
theorem one_pow_mod {p a : Int} (k : Nat) (h : a % p = 1 % p) : a ^ k % p = 1 % p := by
  have := pow_mod_congr k h
  rwa [Int.one_pow] at this
theorem one_p {f : Int} (h0 : 0 ≤ f) (h8 : f ≤ 8) : (1 : Int) % P f = 1 := by
  have := P_bd h0 h8
  exact Int.emod_eq_of_lt (by omega) (by omega)
/-- w is a root of order n in field f, v its inverse. -/
structure Rt (f : Int) (w v : Int) (n : Nat) : Prop where
  h0 : 0 ≤ f
  h8 : f ≤ 8
  n0 : 0 < n
  ord : ∀ m, w ^ m % P f = 1 % P f ↔ n ∣ m
  inv : (w * v) % P f = 1 % P f
theorem Rt.full {f w v : Int} {n : Nat} (h : Rt f w v n) : w ^ n % P f = 1 % P f := (h.ord n).2 (Nat.dvd_refl n)
/-- Exponents count modulo n. -/
theorem Rt.exp {f w v : Int} {n : Nat} (h : Rt f w v n) {a b : Nat} (e : a % n = b % n) : w ^ a % P f = w ^ b % P f := by
  have step : ∀ c, w ^ c % P f = w ^ (c % n) % P f := fun c => by
    have : w ^ c = (w ^ n) ^ (c / n) * w ^ (c % n) := by rw [← Int.pow_mul, ← Int.pow_add, Nat.div_add_mod]
    rw [this]
    have := emod_mul_congr (one_pow_mod (c / n) h.full) (show w ^ (c % n) % P f = w ^ (c % n) % P f from rfl)
    rwa [Int.one_mul] at this
  rw [step a, step b, e]
/-- The transform, unreduced. -/
def ftF (w : Int) (n : Nat) (A : Nat → Int) (i : Nat) : Int := sumN (fun j => A j * w ^ (i * j)) n
end Go.Proofs.YtangofjpnhhfeabDoor
namespace Go.Proofs.YtangofjpnhhfeabDoor
/-- The first n coefficients agree modulo p. -/
def EqN (p : Int) (n : Nat) (A B : Nat → Int) : Prop := ∀ i, i < n → A i % p = B i % p
theorem EqN.refl (p : Int) (n : Nat) (A : Nat → Int) : EqN p n A A := fun _ _ => rfl
theorem EqN.symm {p : Int} {n : Nat} {A B : Nat → Int} (h : EqN p n A B) : EqN p n B A := fun i hi => (h i hi).symm
theorem EqN.trans {p : Int} {n : Nat} {A B C : Nat → Int} (h : EqN p n A B) (k : EqN p n B C) : EqN p n A C := fun i hi => (h i hi).trans (k i hi)
theorem EqN.mono {p : Int} {n m : Nat} {A B : Nat → Int} (h : EqN p n A B) (hm : m ≤ n) : EqN p m A B := fun i hi => h i (by omega)
theorem EqN.mul {p : Int} {n : Nat} {A A' B B' : Nat → Int} (h : EqN p n A A') (k : EqN p n B B') : EqN p n (mulS A B) (mulS A' B') := fun i hi => by
  show cv i A B % p = cv i A' B' % p
  rw [cv_sum, cv_sum]
  exact sumN_mod fun j hj => emod_mul_congr (h j (by omega)) (k (i - j) (by omega))
def addS (A B : Nat → Int) : Nat → Int := fun j => A j + B j
theorem EqN.add {p : Int} {n : Nat} {A A' B B' : Nat → Int} (h : EqN p n A A') (k : EqN p n B B') : EqN p n (addS A B) (addS A' B') := fun i hi => emod_add_congr (h i hi) (k i hi)
theorem add_mulS (A B C : Nat → Int) : mulS (addS A B) C = addS (mulS A C) (mulS B C) := funext fun k => cv_add_l k A B C
/-- The coefficients times their places. -/
def thS (A : Nat → Int) : Nat → Int := fun i => (i : Int) * A i
theorem thS_mul (A B : Nat → Int) : thS (mulS A B) = addS (mulS (thS A) B) (mulS A (thS B)) := by
  funext k
  show (k : Int) * cv k A B = cv k (thS A) B + cv k A (thS B)
  rw [cv_sum, cv_sum, cv_sum, ← sumN_mul, ← sumN_add]
  exact sumN_congr fun i hi => by
    unfold thS
    have e : (k : Int) = (i : Int) + ((k - i : Nat) : Int) := by omega
    rw [e, Int.add_mul]
    congr 1
    · rw [Int.mul_assoc]
    · rw [← Int.mul_assoc, ← Int.mul_assoc, Int.mul_comm (A i)]
theorem thS_add (A B : Nat → Int) : thS (addS A B) = addS (thS A) (thS B) := funext fun _ => Int.mul_add _ _ _
theorem EqN.th {p : Int} {n : Nat} {A B : Nat → Int} (h : EqN p n A B) : EqN p n (thS A) (thS B) := fun i hi => emod_mul_congr rfl (h i hi)
/-- What does not vanish in a field can be cancelled. -/
theorem cancelF {f : Int} (h0 : 0 ≤ f) (h8 : f ≤ 8) {c x y : Int} (hc : c % P f ≠ 0) (h : (c * x) % P f = (c * y) % P f) : x % P f = y % P f := by
  have hz : RS c (P f) ≠ 0 := hc
  have hi := (inv_one h0 h8 hz).1
  obtain ⟨v, hv⟩ : ∃ v, mPower f c (-1) = v := ⟨_, rfl⟩
  rw [hv] at hi
  have e1 : (v * c) % P f = 1 % P f := by
    have h2 : (v * (c % P f)) % P f = 1 := hi
    rw [Int.mul_emod, Int.emod_emod_of_dvd c (Int.dvd_refl _), ← Int.mul_emod] at h2
    rw [h2, one_p h0 h8]
  have key : ∀ z : Int, (v * (c * z)) % P f = z % P f := fun z => by
    rw [← Int.mul_assoc, Int.mul_emod, e1, ← Int.mul_emod, Int.one_mul]
  rw [← key x, ← key y]
  exact emod_mul_congr rfl h
/-- A place below n ≤ P does not vanish in the field. -/
theorem place_ne {f : Int} {i n : Nat} (hn : (n : Int) ≤ P f) (i0 : i ≠ 0) (hi : i < n) : (i : Int) % P f ≠ 0 := by
  rw [Int.emod_eq_of_lt (by omega) (by omega)]
  omega
theorem cv_head (A B : Nat → Int) (k : Nat) : cv (k + 1) A B = A 0 * B (k + 1) + cv k (tl A) B := rfl
/-- Two series with one product by A, where A's first coefficient does not vanish. -/
theorem EqN.cancel {f : Int} (h0 : 0 ≤ f) (h8 : f ≤ 8) {n : Nat} {A B C : Nat → Int} (hA : A 0 % P f ≠ 0) (h : EqN (P f) n (mulS A B) (mulS A C)) : EqN (P f) n B C := by
  intro i
  induction i using Nat.strongRecOn with
  | ind i ih =>
    intro hi
    have hi2 := h i hi
    cases i with
    | zero => exact cancelF h0 h8 hA hi2
    | succ k =>
      have e1 : cv k (tl A) B % P f = cv k (tl A) C % P f := by
        rw [cv_sum, cv_sum]
        exact sumN_mod fun j hj => emod_mul_congr rfl (ih (k - j) (by omega) (by omega))
      have h2 : (A 0 * B (k + 1) + cv k (tl A) B) % P f = (A 0 * C (k + 1) + cv k (tl A) C) % P f := hi2
      have h3 : (A 0 * B (k + 1)) % P f = (A 0 * C (k + 1)) % P f := by
        rw [Int.emod_eq_emod_iff_emod_sub_eq_zero] at h2 e1 ⊢
        have e : A 0 * B (k + 1) + cv k (tl A) B - (A 0 * C (k + 1) + cv k (tl A) C) = (A 0 * B (k + 1) - A 0 * C (k + 1)) + (cv k (tl A) B - cv k (tl A) C) := by omega
        rw [e, Int.add_emod, e1, Int.add_zero, Int.emod_emod_of_dvd _ (Int.dvd_refl _)] at h2
        exact h2
      exact cancelF h0 h8 hA h3
/-- B is the inverse of A. -/
def IsInv (p : Int) (n : Nat) (A B : Nat → Int) : Prop := EqN p n (mulS A B) oneS
theorem IsInv.unique {p : Int} {n : Nat} {A B C : Nat → Int} (hB : IsInv p n A B) (hC : IsInv p n A C) : EqN p n B C := by
  have h1 : EqN p n (mulS B (mulS A C)) (mulS B oneS) := (EqN.refl p n B).mul hC
  have h2 : EqN p n (mulS (mulS A B) C) (mulS oneS C) := hB.mul (EqN.refl p n C)
  have e : mulS B (mulS A C) = mulS (mulS A B) C := by rw [← mul_assocS, mul_commS B A]
  rw [e, mul_commS B oneS, one_mul] at h1
  rw [one_mul] at h2
  exact h1.symm.trans h2
/-- The logarithm L and the series A that it is of. -/
def IsLog (p : Int) (n : Nat) (L A : Nat → Int) : Prop := EqN p n (thS A) (mulS (thS L) A)
/-- The exponential is known by its logarithm. -/
theorem IsLog.exp_unique {f : Int} (h0 : 0 ≤ f) (h8 : f ≤ 8) {n : Nat} (hn : (n : Int) ≤ P f) {L A B : Nat → Int} (hA : IsLog (P f) n L A) (hB : IsLog (P f) n L B) (h : A 0 % P f = B 0 % P f) : EqN (P f) n A B := by
  intro i
  induction i using Nat.strongRecOn with
  | ind i ih =>
    intro hi
    cases i with
    | zero => exact h
    | succ k =>
      have e : ∀ C : Nat → Int, cv (k + 1) (thS L) C = cv k (tl (thS L)) C := fun C => by
        rw [cv_head]
        show ((0 : Nat) : Int) * L 0 * C (k + 1) + _ = _
        simp
      have h1 := hA (k + 1) hi
      have h2 := hB (k + 1) hi
      have e1 : cv k (tl (thS L)) A % P f = cv k (tl (thS L)) B % P f := by
        rw [cv_sum, cv_sum]
        exact sumN_mod fun j hj => emod_mul_congr rfl (ih (k - j) (by omega) (by omega))
      have h3 : (thS A (k + 1)) % P f = (thS B (k + 1)) % P f := by
        rw [h1, h2]
        show cv (k + 1) (thS L) A % P f = cv (k + 1) (thS L) B % P f
        rw [e, e, e1]
      exact cancelF h0 h8 (place_ne hn (by omega) hi) h3
/-- The logarithm of a product. -/
theorem IsLog.mul {p : Int} {n : Nat} {L M A B : Nat → Int} (hA : IsLog p n L A) (hB : IsLog p n M B) : IsLog p n (addS L M) (mulS A B) := by
  unfold IsLog at *
  rw [thS_mul, thS_add, add_mulS]
  refine EqN.add ?_ ?_
  · have := hA.mul (EqN.refl p n B)
    rwa [mul_assocS] at this
  · have := (EqN.refl p n A).mul hB
    rwa [← mul_assocS, mul_commS A (thS M), mul_assocS] at this
theorem IsInv.mul {p : Int} {n : Nat} {A B V W : Nat → Int} (hA : IsInv p n A V) (hB : IsInv p n B W) : IsInv p n (mulS A B) (mulS V W) := by
  unfold IsInv at *
  have e : mulS (mulS A B) (mulS V W) = mulS (mulS A V) (mulS B W) := by
    rw [mul_assocS, ← mul_assocS B V W, mul_commS B V, mul_assocS V B W, ← mul_assocS]
  rw [e]
  have := hA.mul hB
  rwa [one_mul] at this
/-- Powers. -/
theorem EqN.pow {p : Int} {n : Nat} {A B : Nat → Int} (h : EqN p n A B) : ∀ k : Nat, EqN p n (powS A k) (powS B k)
  | 0 => EqN.refl _ _ _
  | k + 1 => (EqN.pow h k).mul h
theorem pow_oneS (p : Int) (n : Nat) : ∀ k : Nat, EqN p n (powS oneS k) oneS
  | 0 => EqN.refl _ _ _
  | k + 1 => by
    have := (pow_oneS p n k).mul (EqN.refl p n oneS)
    rwa [one_mul] at this
theorem pow_mulS (A B : Nat → Int) : ∀ k : Nat, powS (mulS A B) k = mulS (powS A k) (powS B k)
  | 0 => (one_mul oneS).symm
  | k + 1 => by
    show mulS (powS (mulS A B) k) (mulS A B) = mulS (mulS (powS A k) A) (mulS (powS B k) B)
    rw [pow_mulS A B k, mul_assocS, mul_assocS, ← mul_assocS (powS B k) A B, mul_commS (powS B k) A, mul_assocS A (powS B k) B]
theorem IsInv.powers {p : Int} {n : Nat} {A V : Nat → Int} (h : IsInv p n A V) (k : Nat) : EqN p n (mulS (powS A k) (powS V k)) oneS := by
  rw [← pow_mulS]
  exact (EqN.pow h k).trans (pow_oneS p n k)
theorem IsInv.less {p : Int} {n : Nat} {A V : Nat → Int} (h : IsInv p n A V) (i k : Nat) : EqN p n (mulS (powS A (i + k)) (powS V k)) (powS A i) := by
  rw [pow_addS, mul_assocS]
  have := (EqN.refl p n (powS A i)).mul (h.powers k)
  rwa [mul_commS (powS A i) oneS, one_mul] at this
theorem IsInv.symm {p : Int} {n : Nat} {A V : Nat → Int} (h : IsInv p n A V) : IsInv p n V A := by
  unfold IsInv at *
  rwa [mul_commS]
end Go.Proofs.YtangofjpnhhfeabDoor
namespace Go.Proofs.YtangofjpnhhfeabDoor
/-- B starts with 1, and its square is A. -/
def IsSqrt (p : Int) (n : Nat) (B A : Nat → Int) : Prop := B 0 % p = 1 % p ∧ EqN p n (mulS B B) A
theorem two_ne {f : Int} (h0 : 0 ≤ f) (h8 : f ≤ 8) : (2 : Int) % P f ≠ 0 := by
  have h := P_bd h0 h8
  rw [Int.emod_eq_of_lt (by omega) (by omega)]
  omega
theorem IsSqrt.unique {f : Int} (h0 : 0 ≤ f) (h8 : f ≤ 8) {n : Nat} {A B C : Nat → Int} (hB : IsSqrt (P f) n B A) (hC : IsSqrt (P f) n C A) : EqN (P f) n B C := by
  have h1 := hB.2.trans hC.2.symm
  have hs : addS B C 0 % P f ≠ 0 := by
    have : (B 0 + C 0) % P f = (1 + 1) % P f := emod_add_congr hB.1 hC.1
    show (B 0 + C 0) % P f ≠ 0
    rw [this]
    exact two_ne h0 h8
  refine EqN.cancel h0 h8 hs ?_
  rw [add_mulS, add_mulS, mul_commS C B]
  intro i hi
  show (cv i B B + cv i B C) % P f = (cv i B C + cv i C C) % P f
  rw [Int.add_comm (cv i B C) (cv i C C)]
  exact emod_add_congr (h1 i hi) rfl
/-- S, signed, are what the identities ask of E (places from 1 on). -/
def sgnS (S : Nat → Int) : Nat → Int := fun k => if k = 0 then 0 else (-1) ^ (k - 1) * S (k - 1)
def IsNewt (p : Int) (n : Nat) (E S : Nat → Int) : Prop := EqN p (n + 1) (thS E) (mulS (sgnS S) E)
theorem pm_one : ∀ k : Nat, ((-1 : Int)) ^ k = 1 ∨ ((-1 : Int)) ^ k = -1
  | 0 => .inl rfl
  | k + 1 => by
    rw [Int.pow_succ]
    rcases pm_one k with h | h
    · exact .inr (by rw [h]; rfl)
    · exact .inl (by rw [h]; rfl)
theorem IsNewt.unique {f : Int} (h0 : 0 ≤ f) (h8 : f ≤ 8) {n : Nat} {E S T : Nat → Int} (hE : E 0 % P f ≠ 0) (hS : IsNewt (P f) n E S) (hT : IsNewt (P f) n E T) : EqN (P f) n S T := by
  have h1 : EqN (P f) (n + 1) (sgnS S) (sgnS T) := by
    have h2 := hS.symm.trans hT
    rw [mul_commS (sgnS S), mul_commS (sgnS T)] at h2
    exact h2.cancel h0 h8 hE
  intro i hi
  have h3 := h1 (i + 1) (by omega)
  have e : ∀ U : Nat → Int, sgnS U (i + 1) = (-1) ^ i * U i := fun U => rfl
  rw [e, e] at h3
  rcases pm_one i with h | h
  · rw [h, Int.one_mul, Int.one_mul] at h3; exact h3
  · rw [h] at h3
    have h4 : (-1 * (-1 * S i)) % P f = (-1 * (-1 * T i)) % P f := emod_mul_congr rfl h3
    rwa [← Int.mul_assoc, ← Int.mul_assoc, show (-1 : Int) * -1 = 1 by decide, Int.one_mul, Int.one_mul] at h4
end Go.Proofs.YtangofjpnhhfeabDoor
namespace Go.Proofs.YtangofjpnhhfeabDoor
def SerOk (f : Int) (l : List Int) : Prop := (0 ≤ f ∧ f ≤ 8) ∧ (1 ≤ l.length ∧ l.length ≤ 64) ∧ ∀ j, j < l.length → 0 ≤ lf l j ∧ lf l j < P f
theorem SerOk.all {f : Int} {l : List Int} (h : SerOk f l) (j : Nat) : 0 ≤ lf l j ∧ lf l j < P f := by
  have hp := P_bd h.1.1 h.1.2
  by_cases hj : j < l.length
  · exact h.2.2 j hj
  · rw [lf_out l (by omega)]; omega
/-- A list of n elements. -/
def Ser (f : Int) (n : Nat) (l : List Int) : Prop := l.length = n ∧ ∀ j, 0 ≤ lf l j ∧ lf l j < P f
theorem ser_eq {f : Int} {n : Nat} {l m : List Int} (hl : Ser f n l) (hm : Ser f n m) (h : EqN (P f) n (lf l) (lf m)) : l = m := by
  refine list_ext (by rw [hl.1, hm.1]) fun j hj => ?_
  have := h j (by rw [← hl.1]; exact hj)
  rwa [Int.emod_eq_of_lt (hl.2 j).1 (hl.2 j).2, Int.emod_eq_of_lt (hm.2 j).1 (hm.2 j).2] at this
/-- The first n of F, as elements. -/
def elL (f : Int) (n : Nat) (F : Nat → Int) : List Int := tab n fun i => RS (F i) (P f)
theorem elL_len (f : Int) (n : Nat) (F : Nat → Int) : (elL f n F).length = n := tab_len _ _
theorem lf_elL (f : Int) (n : Nat) (F : Nat → Int) (j : Nat) : lf (elL f n F) j = if j < n then RS (F j) (P f) else 0 := lf_tab _ _ _
theorem elL_ser {f : Int} (h0 : 0 ≤ f) (h8 : f ≤ 8) (n : Nat) (F : Nat → Int) : Ser f n (elL f n F) := by
  have hp := P_bd h0 h8
  refine ⟨elL_len f n F, fun j => ?_⟩
  rw [lf_elL]
  split
  · exact RS_bd (by omega)
  · omega
theorem elL_eq {f : Int} (n : Nat) (F : Nat → Int) : EqN (P f) n (lf (elL f n F)) F := fun i hi => by
  rw [lf_elL, if_pos hi]
  unfold RS
  exact Int.emod_emod_of_dvd _ (Int.dvd_refl _)
open Classical in
noncomputable def theL (Q : List Int → Prop) : List Int := if h : ∃ l, Q l then Classical.choose h else []
theorem theL_eq {Q : List Int → Prop} {l : List Int} (hu : ∀ a b, Q a → Q b → a = b) (h : Q l) : theL Q = l := by
  have hex : ∃ l, Q l := ⟨l, h⟩
  unfold theL
  rw [dif_pos hex]
  exact hu _ _ (Classical.choose_spec hex) h
def ShortOk (f : Int) (a : List Int) : Prop := SerOk f a ∧ (a.length : Int) ≤ P f
def smulL (f : Int) (a b : List Int) : List Int := elL f a.length (mulS (lf a) (lf b))
def QInv (f : Int) (a l : List Int) : Prop := Ser f a.length l ∧ IsInv (P f) a.length (lf a) (lf l)
noncomputable def invL (f : Int) (a : List Int) : List Int := theL (QInv f a)
theorem invL_eq {f : Int} {a l : List Int} (h : QInv f a l) : invL f a = l := theL_eq (fun _ _ h1 h2 => ser_eq h1.1 h2.1 (h1.2.unique h2.2)) h
theorem one_ne {f : Int} (h0 : 0 ≤ f) (h8 : f ≤ 8) : (1 : Int) % P f ≠ 0 := by rw [one_p h0 h8]; decide
def QExp (f : Int) (a l : List Int) : Prop := Ser f a.length l ∧ lf l 0 = 1 ∧ IsLog (P f) a.length (lf a) (lf l)
noncomputable def expL (f : Int) (a : List Int) : List Int := theL (QExp f a)
theorem expL_eq {f : Int} {a l : List Int} (ha : ShortOk f a) (h : QExp f a l) : expL f a = l :=
  theL_eq (fun _ _ p q => ser_eq p.1 q.1 (IsLog.exp_unique ha.1.1.1 ha.1.1.2 ha.2 p.2.2 q.2.2 (by rw [p.2.1, q.2.1]))) h
def QSqrt (f : Int) (a l : List Int) : Prop := Ser f a.length l ∧ lf l 0 = 1 ∧ EqN (P f) a.length (mulS (lf l) (lf l)) (lf a)
noncomputable def sqrtL (f : Int) (a : List Int) : List Int := theL (QSqrt f a)
theorem sqrtL_eq {f : Int} {a l : List Int} (ha : SerOk f a) (h : QSqrt f a l) : sqrtL f a = l :=
  theL_eq (fun _ _ p q => ser_eq p.1 q.1 (IsSqrt.unique ha.1.1 ha.1.2 ⟨by rw [p.2.1], p.2.2⟩ ⟨by rw [q.2.1], q.2.2⟩)) h
/-- 1, and the list behind it. -/
def oneE (a : List Int) : Nat → Int := fun k => if k = 0 then 1 else lf a (k - 1)
def QNewt (f : Int) (a l : List Int) : Prop := Ser f a.length l ∧ IsNewt (P f) a.length (oneE a) (lf l)
noncomputable def newtL (f : Int) (a : List Int) : List Int := theL (QNewt f a)
theorem newtL_eq {f : Int} {a l : List Int} (ha : SerOk f a) (h : QNewt f a l) : newtL f a = l :=
  theL_eq (fun _ _ p q => ser_eq p.1 q.1 (IsNewt.unique ha.1.1 ha.1.2 (one_ne ha.1.1 ha.1.2) p.2 q.2)) h
end Go.Proofs.YtangofjpnhhfeabDoor
namespace Go.Proofs.YtangofjpnhhfeabDoor
theorem inv_mul {f : Int} (h0 : 0 ≤ f) (h8 : f ≤ 8) {c : Int} (hc : c % P f ≠ 0) : (mPower f c (-1) * c) % P f = 1 % P f := by
  have h2 := (inv_one h0 h8 (z := c) hc).1
  have h3 : (mPower f c (-1) * (c % P f)) % P f = 1 := h2
  rw [Int.mul_emod, Int.emod_emod_of_dvd c (Int.dvd_refl _), ← Int.mul_emod] at h3
  rw [h3, one_p h0 h8]
/-- O with one more value. -/
def more (O : Nat → Int) (k : Nat) (x : Int) : Nat → Int := fun j => if j < k then O j else x
end Go.Proofs.YtangofjpnhhfeabDoor
namespace Go.Proofs.YtangofjpnhhfeabDoor
open Go.RowKit
/-- The coefficients of an inverse so far. -/
def InvAt (f : Int) (A : Nat → Int) (w wr : World) (v : Value) (k : Nat) : Prop := ∃ O : Nat → Int, (∀ j, 0 ≤ O j ∧ O j < P f) ∧ IsInv (P f) k A O ∧ wr.ownsRow w.heap.size 3 1 v k (xsF O k) ∧ Below w.heap.size w wr
end Go.Proofs.YtangofjpnhhfeabDoor
namespace Go.Proofs.YtangofjpnhhfeabDoor
open Go.RowKit
/-- A list that is read, and its capacity. -/
def SrcC (w : World) (a : Option Addr) (n cap : Nat) (F : Nat → Int) : Prop := n ≤ cap ∧ Src w a n F
theorem SrcC.src {w : World} {a : Option Addr} {n cap : Nat} {F : Nat → Int} (h : SrcC w a n cap F) : Src w a n F := h.2
theorem SrcC.keep {w w' : World} {a : Option Addr} {n cap : Nat} {F : Nat → Int} (h : SrcC w a n cap F) (hb : Below w.heap.size w w') : SrcC w' a n cap F := ⟨h.1, h.2.keep hb⟩
theorem OwnA.srcC {w : World} {B : Nat} {a : Option Addr} {l : List Int} {cap : Nat} (h : OwnA w B a l cap) : SrcC w a l.length cap (lf l) :=
  ⟨by
    rcases h with ⟨_, h1, h2⟩ | ⟨_, _, h1, _⟩
    · omega
    · omega, h.src⟩
end Go.Proofs.YtangofjpnhhfeabDoor
namespace Go.Proofs.YtangofjpnhhfeabDoor
/-- Horner's values: the quotient by x - y of a polynomial of n + 1 coefficients. -/
def dqS (y : Int) (A : Nat → Int) (n k : Nat) : Int := evN y (fun j => A (k + 1 + j)) (n - k)
theorem dqS_tl (y : Int) (A : Nat → Int) (n : Nat) : tl (dqS y A (n + 1)) = dqS y (tl A) n := funext fun k => by
  show evN y (fun j => A (k + 1 + 1 + j)) (n + 1 - (k + 1)) = evN y (fun j => A (k + 1 + j + 1)) (n - k)
  rw [show n + 1 - (k + 1) = n - k by omega]
  congr 1
  funext j
  rw [show k + 1 + 1 + j = k + 1 + j + 1 by omega]
theorem dqS_zero (y : Int) (A : Nat → Int) (n : Nat) : dqS y A n 0 = evN y (tl A) n := by
  unfold dqS
  rw [Nat.sub_zero]
  congr 1
  funext j
  show A (0 + 1 + j) = A (j + 1)
  rw [show 0 + 1 + j = j + 1 by omega]
theorem dqS_step (y : Int) (A : Nat → Int) {n k : Nat} (h : k < n) : dqS y A n k = A (k + 1) + y * dqS y A n (k + 1) := by
  unfold dqS
  obtain ⟨m, hm⟩ : ∃ m, n - k = m + 1 := ⟨n - k - 1, by omega⟩
  rw [hm, evN_succ, show n - (k + 1) = m by omega]
  congr 2
  congr 1
  funext j
  show A (k + 1 + (j + 1)) = A (k + 1 + 1 + j)
  rw [show k + 1 + (j + 1) = k + 1 + 1 + j by omega]
theorem dqS_end (y : Int) (A : Nat → Int) (n : Nat) : dqS y A n n = 0 := by
  unfold dqS
  rw [Nat.sub_self]
  rfl
theorem evN_dq (x y : Int) : ∀ (n : Nat) (A : Nat → Int), evN x A (n + 1) = evN y A (n + 1) + (x - y) * evN x (dqS y A n) n
  | 0, A => by
    rw [evN_succ, evN_succ]
    simp [evN, sumN]
  | n + 1, A => by
    rw [evN_succ, evN_succ y A, evN_dq x y n (tl A), evN_succ x (dqS y A (n + 1)), dqS_tl, dqS_zero]
    obtain ⟨E, hE⟩ : ∃ E, evN y (tl A) (n + 1) = E := ⟨_, rfl⟩
    obtain ⟨D, hD⟩ : ∃ D, evN x (dqS y (tl A) n) n = D := ⟨_, rfl⟩
    rw [hE, hD, Int.mul_add, Int.mul_add, Int.sub_mul, Int.sub_mul, Int.sub_mul, Int.mul_sub, ← Int.mul_assoc x x D, ← Int.mul_assoc x y D, ← Int.mul_assoc y x D, Int.mul_comm y x, Int.mul_assoc x x D, ← Int.mul_assoc x x D]
    omega
/-- The points are distinct in the field. -/
def DistinctS (f : Int) (X : Nat → Int) (n : Nat) : Prop := ∀ i j, i < n → j < n → i ≠ j → (X i - X j) % P f ≠ 0
theorem DistinctS.less {f : Int} {X : Nat → Int} {n m : Nat} (h : DistinctS f X n) (hm : m ≤ n) : DistinctS f X m := fun i j hi hj => h i j (by omega) (by omega)
/-- A polynomial of n coefficients that vanishes at n points. -/
theorem roots_zero {f : Int} (h0 : 0 ≤ f) (h8 : f ≤ 8) (X : Nat → Int) : ∀ (n : Nat) (A : Nat → Int), DistinctS f X n → (∀ i, i < n → evN (X i) A n % P f = 0) → ∀ j, j < n → A j % P f = 0
  | 0, _, _, _ => fun j hj => by omega
  | n + 1, A, hd, hz => by
    have hB : ∀ j, j < n → dqS (X n) A n j % P f = 0 := roots_zero h0 h8 X n (dqS (X n) A n) (hd.less (by omega)) fun i hi => by
      have h1 := hz i (by omega)
      have h2 := hz n (by omega)
      rw [evN_dq (X i) (X n) n A, Int.add_emod, h2, Int.zero_add, Int.emod_emod_of_dvd _ (Int.dvd_refl _)] at h1
      have h3 := cancelF h0 h8 (x := evN (X i) (dqS (X n) A n) n) (y := 0) (hd i n (by omega) (by omega) (by omega)) (by rw [h1, Int.mul_zero]; rfl)
      rw [h3]
      rfl
    have hB2 : ∀ j, j ≤ n → dqS (X n) A n j % P f = 0 := fun j hj => by
      by_cases e : j < n
      · exact hB j e
      · obtain rfl : j = n := by omega
        rw [dqS_end]
        rfl
    intro j hj
    cases j with
    | zero =>
      have h2 := hz n (by omega)
      have h3 := hB2 0 (Nat.zero_le _)
      rw [dqS_zero] at h3
      rw [evN_succ, Int.add_emod, Int.mul_emod, h3, Int.mul_zero, Int.zero_emod, Int.add_zero, Int.emod_emod_of_dvd _ (Int.dvd_refl _)] at h2
      exact h2
    | succ k =>
      have h1 := dqS_step (X n) A (n := n) (k := k) (by omega)
      have h2 := hB k (by omega)
      have h3 := hB2 (k + 1) (by omega)
      rw [h1, Int.add_emod, Int.mul_emod, h3, Int.mul_zero, Int.zero_emod, Int.add_zero, Int.emod_emod_of_dvd _ (Int.dvd_refl _)] at h2
      exact h2
theorem evL_n {f x : Int} {a : List Int} {n : Nat} (h : a.length ≤ n) : evL f x a = RS (evN x (lf a) n) (P f) := by
  unfold evL
  rw [evN_more h fun j hj => lf_out a hj]
/-- Two coefficient functions with the same values at n points. -/
theorem same_values {f : Int} (h0 : 0 ≤ f) (h8 : f ≤ 8) {n : Nat} {A B X : Nat → Int} (hd : DistinctS f X n) (h : ∀ i, i < n → evN (X i) A n % P f = evN (X i) B n % P f) : ∀ j, j < n → A j % P f = B j % P f := fun j hj => by
  have h1 := roots_zero h0 h8 X n (fun j => A j + -1 * B j) hd (fun i hi => by
    rw [evN_add, evN_smul, show evN (X i) A n + -1 * evN (X i) B n = evN (X i) A n - evN (X i) B n by omega, ← Int.emod_eq_emod_iff_emod_sub_eq_zero]
    exact h i hi) j hj
  rw [Int.emod_eq_emod_iff_emod_sub_eq_zero]
  rw [← h1]
  congr 1
  omega
/-- There is one polynomial through points. -/
theorem through_unique {f : Int} (h0 : 0 ≤ f) (h8 : f ≤ 8) {n : Nat} {a b : List Int} {X : Nat → Int} (hd : DistinctS f X n) (ha : Pol f a) (hb : Pol f b) (la : a.length ≤ n) (lb : b.length ≤ n) (h : ∀ i, i < n → evL f (X i) a = evL f (X i) b) : a = b := by
  refine Pol.eq ha hb fun j => ?_
  by_cases hj : j < n
  · refine same_values h0 h8 hd (fun i hi => ?_) j hj
    have := h i hi
    rwa [evL_n la, evL_n lb] at this
  · rw [lf_out a (by omega), lf_out b (by omega)]
/-- x - y as a polynomial. -/
def linL (f y : Int) : List Int := [RS (0 - y) (P f), 1]
theorem linL_pol {f : Int} (h0 : 0 ≤ f) (h8 : f ≤ 8) (y : Int) : Pol f (linL f y) := by
  have hp := P_bd h0 h8
  refine ⟨fun j => ?_, .inr (by show (1 : Int) ≠ 0; decide)⟩
  match j with
  | 0 => exact RS_bd (by omega)
  | 1 => show 0 ≤ (1 : Int) ∧ (1 : Int) < P f; omega
  | j + 2 => show 0 ≤ (0 : Int) ∧ (0 : Int) < P f; omega
theorem evL_lin {f : Int} (x y : Int) : evL f x (linL f y) = RS (x - y) (P f) := by
  unfold evL
  have e : evN x (lf (linL f y)) (linL f y).length = RS (0 - y) (P f) + x := by
    show evN x (lf (linL f y)) 2 = _
    show 0 + lf (linL f y) 0 * x ^ 0 + lf (linL f y) 1 * x ^ 1 = _
    show 0 + RS (0 - y) (P f) * x ^ 0 + 1 * x ^ 1 = _
    rw [Int.pow_zero, Int.mul_one, Int.one_mul, Int.zero_add, Int.pow_succ, Int.pow_zero, Int.one_mul]
  rw [e]
  unfold RS
  rw [show x - y = (0 - y) + x by omega]
  exact emod_add_congr (Int.emod_emod_of_dvd _ (Int.dvd_refl _)) rfl
/-- The product of the x - X i, i < n. -/
def vanL (f : Int) (X : Nat → Int) : Nat → List Int
  | 0 => [1]
  | n + 1 => mulL f (vanL f X n) (linL f (X n))
theorem pol_oneL {f : Int} (h0 : 0 ≤ f) (h8 : f ≤ 8) : Pol f [1] := by
  have hp := P_bd h0 h8
  have e2 : cutL 1 (fun _ => (1 : Int)) = [1] := rfl
  rw [← e2]
  exact Pol.cut (by omega) fun _ _ => by omega
theorem vanL_pol {f : Int} (h0 : 0 ≤ f) (h8 : f ≤ 8) (X : Nat → Int) : ∀ n, Pol f (vanL f X n)
  | 0 => pol_oneL h0 h8
  | _ + 1 => pol_mulL h0 h8 _ _
theorem vanL_len {f : Int} (h0 : 0 ≤ f) (h8 : f ≤ 8) (X : Nat → Int) : ∀ n, (vanL f X n).length = n + 1
  | 0 => rfl
  | n + 1 => by
    have ih := vanL_len h0 h8 X n
    show (mulL f (vanL f X n) (linL f (X n))).length = _
    have l2 : (linL f (X n)).length = 2 := rfl
    rw [mulL_len h0 h8 (vanL_pol h0 h8 X n) (linL_pol h0 h8 _) (by omega) (by omega), ih, l2]
    omega
/-- The product of the x - X i as a number. -/
def pdZ (x : Int) (X : Nat → Int) : Nat → Int
  | 0 => 1
  | n + 1 => pdZ x X n * (x - X n)
theorem vanL_ev {f : Int} (h0 : 0 ≤ f) (h8 : f ≤ 8) (x : Int) (X : Nat → Int) : ∀ n, evL f x (vanL f X n) = RS (pdZ x X n) (P f)
  | 0 => by
    show evL f x [1] = RS 1 (P f)
    unfold evL
    show RS (0 + (1 : Int) * x ^ 0) (P f) = _
    rw [Int.pow_zero]
    rfl
  | n + 1 => by
    show evL f x (mulL f (vanL f X n) (linL f (X n))) = _
    rw [evL_mul, vanL_ev h0 h8 x X n, evL_lin]
    unfold RS
    exact (Int.mul_emod _ _ _).symm
theorem pdZ_zero {x : Int} {X : Nat → Int} : ∀ {n i : Nat}, i < n → x = X i → pdZ x X n = 0
  | n + 1, i, h, e => by
    show pdZ x X n * (x - X n) = 0
    by_cases hi : i < n
    · rw [pdZ_zero hi e, Int.zero_mul]
    · obtain rfl : i = n := by omega
      rw [e, Int.sub_self, Int.mul_zero]
/-- A product that vanishes has a factor that does. -/
theorem mul_ne_zero {f : Int} (h0 : 0 ≤ f) (h8 : f ≤ 8) {a b : Int} (ha : a % P f ≠ 0) (hb : b % P f ≠ 0) : (a * b) % P f ≠ 0 := fun h => by
  have h3 := cancelF h0 h8 (x := b) (y := 0) ha (by rw [h, Int.mul_zero]; rfl)
  exact hb (h3.trans rfl)
theorem pdZ_ne {f : Int} (h0 : 0 ≤ f) (h8 : f ≤ 8) {x : Int} {X : Nat → Int} : ∀ {n : Nat}, (∀ i, i < n → (x - X i) % P f ≠ 0) → pdZ x X n % P f ≠ 0
  | 0, _ => one_ne' h0 h8
  | n + 1, h => mul_ne_zero h0 h8 (pdZ_ne h0 h8 fun i hi => h i (by omega)) (h n (by omega))
where one_ne' (h0 : 0 ≤ f) (h8 : f ≤ 8) : (1 : Int) % P f ≠ 0 := by rw [one_p h0 h8]; decide
end Go.Proofs.YtangofjpnhhfeabDoor
namespace Go.Proofs.YtangofjpnhhfeabDoor
open Mth
/-- Half way round is -1. -/
theorem Rt.half {f w v : Int} {m : Nat} (h : Rt f w v (m + m)) : (w ^ m + 1) % P f = 0 := by
  have m0 : 0 < m := by have := h.n0; omega
  refine Classical.byContradiction fun hs => ?_
  have h1 : (w ^ m - 1) % P f ≠ 0 := fun e => by
    have : w ^ m % P f = 1 % P f := by
      have := emod_add_congr (p := P f) (a := w ^ m - 1) (b := 0) (c := 1) (d := 1) (by rw [e]; simp) rfl
      rwa [Int.sub_add_cancel, Int.zero_add] at this
    have := Nat.le_of_dvd m0 ((h.ord m).1 this)
    omega
  have := mul_nz h.h0 h.h8 h1 hs
  refine this ?_
  have e : (w ^ m - 1) * (w ^ m + 1) = w ^ (m + m) - 1 := by
    rw [Int.pow_add, Int.mul_add, Int.sub_mul, Int.sub_mul]
    omega
  rw [e]
  exact emod_zero_of_sub h.full
theorem rv_bit (b c : Nat) (hc : c < 2) : ∀ j, rv (2 * b + c) (j + 1) = c * 2 ^ j + rv b j
  | 0 => by simp [rv]; omega
  | j + 1 => by
    rw [rv, rv_bit b c hc j]
    show 2 * (c * 2 ^ j + rv b j) + (2 * b + c) / 2 ^ (j + 1) % 2 = c * 2 ^ (j + 1) + rv b (j + 1)
    rw [rv, Nat.pow_succ, Nat.mul_comm (2 ^ j) 2, ← Nat.div_div_eq_div_mul, show (2 * b + c) / 2 = b by omega, Nat.mul_add, ← Nat.mul_assoc c, Nat.mul_comm c 2, Nat.mul_assoc 2 c, Nat.add_assoc]
/-- After s levels: each block of 2^s is the transform of every 2^(k-s)-th number of X. -/
def Lev (f w : Int) (k s : Nat) (X V : Nat → Int) : Prop :=
  ∀ b t, b < 2 ^ (k - s) → t < 2 ^ s → V (b * 2 ^ s + t) % P f = sumN (fun u => X (rv b (k - s) + u * 2 ^ (k - s)) * w ^ (t * (u * 2 ^ (k - s)))) (2 ^ s) % P f
theorem Lev.start {f w : Int} {k : Nat} {X V : Nat → Int} (h : ∀ j, j < 2 ^ k → V j % P f = X (rv j k) % P f) : Lev f w k 0 X V := by
  intro b t hb ht
  have : t = 0 := by have : t < 1 := ht; omega
  subst this
  rw [Nat.sub_zero] at hb ⊢
  rw [show b * 2 ^ 0 + 0 = b by simp, h b hb]
  show _ = (sumN _ 0 + X (rv b k + 0 * 2 ^ k) * w ^ (0 * (0 * 2 ^ k))) % P f
  simp [sumN]
/-- One level. -/
theorem Lev.step {f w v : Int} {k s : Nat} {X V V' : Nat → Int} (hr : Rt f w v (2 ^ k)) (hs : s < k) (h : Lev f w k s X V)
    (hlo : ∀ b t, b < 2 ^ (k - s - 1) → t < 2 ^ s → V' (b * 2 ^ (s + 1) + t) % P f = (V (b * 2 ^ (s + 1) + t) + V (b * 2 ^ (s + 1) + t + 2 ^ s) * w ^ (t * 2 ^ (k - s - 1))) % P f)
    (hhi : ∀ b t, b < 2 ^ (k - s - 1) → t < 2 ^ s → V' (b * 2 ^ (s + 1) + t + 2 ^ s) % P f = (V (b * 2 ^ (s + 1) + t) - V (b * 2 ^ (s + 1) + t + 2 ^ s) * w ^ (t * 2 ^ (k - s - 1))) % P f) : Lev f w k (s + 1) X V' := by
  intro b t hb ht
  obtain ⟨m, hm⟩ : ∃ m, m = 2 ^ (k - s - 1) := ⟨_, rfl⟩
  obtain ⟨g, hg⟩ : ∃ g, g = 2 ^ s := ⟨_, rfl⟩
  have e1 : k - (s + 1) = k - s - 1 := by omega
  have e2 : k - s = k - s - 1 + 1 := by omega
  have p1 : (2 : Nat) ^ (k - s) = 2 * m := by rw [e2, Nat.pow_succ, hm, Nat.mul_comm]
  have p2 : (2 : Nat) ^ (s + 1) = 2 * g := by rw [Nat.pow_succ, hg, Nat.mul_comm]
  have p3 : (2 : Nat) ^ k = g * m + g * m := by
    have : k = s + (k - s - 1) + 1 := by omega
    rw [this, Nat.pow_succ, Nat.pow_add, ← hg, ← hm]
    omega
  have hr2 : Rt f w v (g * m + g * m) := by rw [← p3]; exact hr
  have hhalf := hr2.half
  rw [e1, ← hm] at hb
  rw [← hm] at hlo hhi
  rw [← hg] at hlo hhi
  rw [p2] at hlo hhi ht
  rw [e1, ← hm, p2]
  -- the two blocks below
  have r0 : rv (2 * b) (k - s) = rv b (k - s - 1) := by rw [e2]; have := rv_bit b 0 (by omega) (k - s - 1); simpa using this
  have r1 : rv (2 * b + 1) (k - s) = rv b (k - s - 1) + m := by rw [e2]; have := rv_bit b 1 (by omega) (k - s - 1); rw [Nat.one_mul, ← hm] at this; rw [show k - s - 1 + 1 - 1 = k - s - 1 by omega]; omega
  have LE : ∀ t, t < g → V (b * (2 * g) + t) % P f = sumN (fun u => X (rv b (k - s - 1) + u * (2 * m)) * w ^ (t * (u * (2 * m)))) g % P f := fun t ht => by
    have := h (2 * b) t (by rw [p1]; omega) (by rw [← hg]; exact ht)
    rw [r0, p1, ← hg, show 2 * b * g = b * (2 * g) by rw [Nat.mul_comm 2 b, Nat.mul_assoc]] at this
    exact this
  have LO : ∀ t, t < g → V (b * (2 * g) + t + g) % P f = sumN (fun u => X (rv b (k - s - 1) + m + u * (2 * m)) * w ^ (t * (u * (2 * m)))) g % P f := fun t ht => by
    have := h (2 * b + 1) t (by rw [p1]; omega) (by rw [← hg]; exact ht)
    rw [r1, p1, ← hg, show (2 * b + 1) * g + t = b * (2 * g) + t + g by rw [Nat.add_mul, Nat.mul_comm 2 b, Nat.mul_assoc]; omega] at this
    exact this
  -- the whole sum, split
  have split : ∀ t, sumN (fun u => X (rv b (k - s - 1) + u * m) * w ^ (t * (u * m))) (2 * g) = sumN (fun u => X (rv b (k - s - 1) + u * (2 * m)) * w ^ (t * (u * (2 * m)))) g + sumN (fun u => X (rv b (k - s - 1) + m + u * (2 * m)) * w ^ (t * (u * (2 * m)))) g * w ^ (t * m) := fun t => by
    rw [sumN_even, ← sumN_mul_r]
    congr 1
    · exact sumN_congr fun u _ => by rw [show 2 * u * m = u * (2 * m) by rw [Nat.mul_comm 2 u, Nat.mul_assoc]]
    · exact sumN_congr fun u _ => by
        rw [show (2 * u + 1) * m = m + u * (2 * m) by rw [Nat.add_mul, Nat.mul_comm 2 u, Nat.mul_assoc]; omega, ← Nat.add_assoc, Int.mul_assoc, ← Int.pow_add, ← Nat.mul_add, Nat.add_comm m]
  by_cases htg : t < g
  · rw [hlo b t hb htg, split t]
    exact emod_add_congr (LE t htg) (emod_mul_congr (LO t htg) rfl)
  · obtain ⟨r, rfl⟩ : ∃ r, t = r + g := ⟨t - g, by omega⟩
    have hrg : r < g := by omega
    rw [← Nat.add_assoc, hhi b r hb hrg, split (r + g)]
    -- w^((r+g) u 2m) = w^(r u 2m), w^((r+g) m) = - w^(r m)
    have x1 : ∀ u, w ^ ((r + g) * (u * (2 * m))) % P f = w ^ (r * (u * (2 * m))) % P f := fun u => hr2.exp (by
      rw [Nat.add_mul, show g * (u * (2 * m)) = (g * m + g * m) * u by rw [← Nat.mul_assoc, Nat.mul_comm g u, Nat.mul_assoc, Nat.mul_comm _ u, ← Nat.mul_add g, Nat.two_mul], Nat.add_mul_mod_self_left])
    have x2 : w ^ ((r + g) * m) % P f = (- w ^ (r * m)) % P f := by
      rw [Nat.add_mul, Int.pow_add]
      have : (w ^ (r * m) * w ^ (g * m)) % P f = (w ^ (r * m) * (-1)) % P f := emod_mul_congr rfl (by
        have := emod_add_congr (p := P f) (a := w ^ (g * m) + 1) (b := 0) (c := -1) (d := -1) (by rw [hhalf]; simp) rfl
        rw [Int.zero_add] at this
        rw [← this]
        congr 1
        omega)
      rw [this]
      congr 1
      omega
    have y1 : (sumN (fun u => X (rv b (k - s - 1) + u * (2 * m)) * w ^ ((r + g) * (u * (2 * m)))) g) % P f = V (b * (2 * g) + r) % P f := by
      rw [LE r hrg]
      exact sumN_mod fun u _ => emod_mul_congr rfl (x1 u)
    have y2 : (sumN (fun u => X (rv b (k - s - 1) + m + u * (2 * m)) * w ^ ((r + g) * (u * (2 * m)))) g) % P f = V (b * (2 * g) + r + g) % P f := by
      rw [LO r hrg]
      exact sumN_mod fun u _ => emod_mul_congr rfl (x1 u)
    have y3 := emod_add_congr y1 (emod_mul_congr y2 x2)
    rw [y3]
    congr 1
    rw [Int.mul_neg]
    omega
/-- All levels: the transform. -/
theorem Lev.last {f w : Int} {k : Nat} {X V : Nat → Int} (h : Lev f w k k X V) {t : Nat} (ht : t < 2 ^ k) : V t % P f = ftF w (2 ^ k) X t % P f := by
  have := h 0 t (by simp) ht
  rw [Nat.sub_self, Nat.zero_mul, Nat.zero_add] at this
  rw [this]
  unfold ftF
  congr 1
  exact sumN_congr fun u _ => by simp [rv]
end Go.Proofs.YtangofjpnhhfeabDoor
namespace Go.Proofs.YtangofjpnhhfeabDoor
open Mth
def VecOk (f : Int) (l : List Int) : Prop := (0 ≤ mLog l.length ∧ mLog l.length ≤ T f) ∧ ∀ j, j < l.length → 0 ≤ lf l j ∧ lf l j < P f
/-- The log of a vector. -/
theorem VecOk.log {f : Int} {l : List Int} (h : VecOk f l) : ∃ k : Nat, k ≤ 9 ∧ l.length = 2 ^ k ∧ mLog l.length = k ∧ hasK f k := by
  rcases log_cases (l.length : Int) with ⟨k, hk, hn, hl⟩ | ⟨_, hl⟩
  · refine ⟨k, hk, ?_, hl, (hasK_iff f k).2 ⟨by omega, by have := h.1.2; omega⟩⟩
    have e : ((2 ^ k : Nat) : Int) = 2 ^ k := by rw [Int.natCast_pow]; rfl
    omega
  · have := h.1.1
    omega
theorem VecOk.f08 {f : Int} {l : List Int} (h : VecOk f l) : 0 ≤ f ∧ f ≤ 8 := by
  obtain ⟨k, _, _, _, hk⟩ := h.log
  exact hk.1
theorem VecOk.lt {f : Int} {l : List Int} (h : VecOk f l) (j : Nat) : 0 ≤ lf l j ∧ lf l j < P f := by
  have h08 := h.f08
  have hp := P_bd h08.1 h08.2
  by_cases hj : j < l.length
  · exact h.2 j hj
  · rw [lf_out l (by omega)]; omega
/-- A list of the same length whose numbers are reduced is a vector. -/
theorem VecOk.tab {f : Int} {l : List Int} (h : VecOk f l) {n : Nat} (hn : n = l.length) (F : Nat → Int) (hF : ∀ j, j < n → 0 ≤ F j ∧ F j < P f) : VecOk f (tab n F) := by
  subst hn
  refine ⟨by rw [tab_len]; exact h.1, fun j hj => ?_⟩
  rw [tab_len] at hj
  rw [lf_tab, if_pos hj]
  exact hF j hj
end Go.Proofs.YtangofjpnhhfeabDoor
namespace Go.Proofs.YtangofjpnhhfeabDoor
open Mth
/-- Within one level: the blocks below B done, and of block B the first j pairs. -/
def stDone (h B j t : Nat) : Prop := t < B * (2 * h) ∨ (t < B * (2 * h) + 2 * h ∧ t % (2 * h) % h < j)
instance (h B j t : Nat) : Decidable (stDone h B j t) := inferInstanceAs (Decidable (_ ∨ _))
end Go.Proofs.YtangofjpnhhfeabDoor
namespace Go.Proofs.YtangofjpnhhfeabDoor
theorem cut_mod {f : Int} {C : Nat → Int} {N : Nat} (hN : ∀ j, N ≤ j → C j = 0) (i : Nat) : C i % P f = lf (cutL N fun j => RS (C j) (P f)) i % P f := by
  rw [lf_cutL]
  by_cases h : i < N
  · rw [if_pos h]; unfold RS; rw [Int.emod_emod_of_dvd _ (Int.dvd_refl _)]
  · rw [if_neg h, hN i (by omega)]
theorem div_is {f : Int} (h0 : 0 ≤ f) (h8 : f ≤ 8) {a b : List Int} (ha : Pol f a) (hb : Pol f b) (hl : b.length ≠ 0) : DivP f a b (quoL f a b) (remL f a b) := by
  obtain ⟨hr1, hr2, C, ⟨N, hN⟩, hC⟩ := remL_is h0 h8 ha hb hl
  have h : DivP f a b (cutL N fun j => RS (C j) (P f)) (remL f a b) := ⟨Pol.cut (P_pos h0 h8) fun _ _ => RS_bd (P_pos h0 h8), hr1, hr2, fun j => by
    rw [hC j]
    exact emod_add_congr (cv_mod j (fun i => cut_mod hN i) (fun _ => rfl)) rfl⟩
  rw [quoL_eq h0 h8 hb h]
  exact h
end Go.Proofs.YtangofjpnhhfeabDoor
namespace Go.Proofs.YtangofjpnhhfeabDoor
open Mth
/-- Zeros behind. -/
def padL (l : List Int) (n : Nat) : List Int := tab n (lf l)
theorem padL_len (l : List Int) (n : Nat) : (padL l n).length = n := tab_len _ _
theorem lf_padL (l : List Int) {n : Nat} (h : l.length ≤ n) (j : Nat) : lf (padL l n) j = lf l j := by
  unfold padL
  rw [lf_tab]
  by_cases hj : j < n
  · rw [if_pos hj]
  · rw [if_neg hj, lf_out l (by omega)]
end Go.Proofs.YtangofjpnhhfeabDoor
namespace Go.Proofs.YtangofjpnhhfeabDoor
/-- How many of the first n places are marked. -/
def cntN (p : Nat → Bool) : Nat → Nat
  | 0 => 0
  | n + 1 => cntN p n + (if p n then 1 else 0)
theorem cntN_le (p : Nat → Bool) : ∀ n, cntN p n ≤ n
  | 0 => Nat.le_refl _
  | n + 1 => by
    have := cntN_le p n
    show cntN p n + (if p n then 1 else 0) ≤ n + 1
    split <;> omega
theorem cntN_congr {p q : Nat → Bool} : ∀ {n : Nat}, (∀ i, i < n → p i = q i) → cntN p n = cntN q n
  | 0, _ => rfl
  | n + 1, h => by
    show cntN p n + (if p n then 1 else 0) = cntN q n + (if q n then 1 else 0)
    rw [cntN_congr fun i hi => h i (by omega), h n (by omega)]
theorem cntN_not (p : Nat → Bool) : ∀ n, cntN p n + cntN (fun i => !p i) n = n
  | 0 => rfl
  | n + 1 => by
    have := cntN_not p n
    show cntN p n + (if p n then 1 else 0) + (cntN (fun i => !p i) n + (if !p n then 1 else 0)) = n + 1
    cases p n
    · simp; omega
    · simp; omega
theorem cntN_or {p q r : Nat → Bool} : ∀ {n : Nat}, (∀ i, i < n → r i = true → p i = true ∨ q i = true) → cntN r n ≤ cntN p n + cntN q n
  | 0, _ => Nat.le_refl _
  | n + 1, h => by
    have ih := cntN_or (p := p) (q := q) (r := r) (n := n) fun i hi => h i (by omega)
    have hn := h n (by omega)
    show cntN r n + (if r n then 1 else 0) ≤ cntN p n + (if p n then 1 else 0) + (cntN q n + (if q n then 1 else 0))
    cases hr : r n
    · simp; omega
    · rcases hn hr with e | e <;> simp [e] <;> omega
/-- What lies at the marked places. -/
def selL (p : Nat → Bool) (X : Nat → Int) : Nat → List Int
  | 0 => []
  | n + 1 => if p n then selL p X n ++ [X n] else selL p X n
theorem selL_len (p : Nat → Bool) (X : Nat → Int) : ∀ n, (selL p X n).length = cntN p n
  | 0 => rfl
  | n + 1 => by
    show (if p n then selL p X n ++ [X n] else selL p X n).length = cntN p n + (if p n then 1 else 0)
    have := selL_len p X n
    split
    · rw [List.length_append, this]; rfl
    · omega
theorem selL_congr {p q : Nat → Bool} (X : Nat → Int) : ∀ {n : Nat}, (∀ i, i < n → p i = q i) → selL p X n = selL q X n
  | 0, _ => rfl
  | n + 1, h => by
    show (if p n then selL p X n ++ [X n] else selL p X n) = (if q n then selL q X n ++ [X n] else selL q X n)
    rw [selL_congr X fun i hi => h i (by omega), h n (by omega)]
theorem lf_app (l : List Int) (x : Int) (j : Nat) : lf (l ++ [x]) j = if j < l.length then lf l j else if j = l.length then x else 0 := by
  show (l ++ [x]).getD j 0 = if j < l.length then l.getD j 0 else if j = l.length then x else 0
  rw [List.getD_eq_getElem?_getD, List.getD_eq_getElem?_getD]
  by_cases h : j < l.length
  · rw [if_pos h, List.getElem?_append_left h]
  · rw [if_neg h, List.getElem?_append_right (by omega)]
    by_cases e : j = l.length
    · subst e
      rw [if_pos rfl, Nat.sub_self]
      rfl
    · rw [if_neg e, List.getElem?_eq_none (by simp; omega)]
      rfl
/-- The places that are marked, in their order. -/
theorem sel_idx (p : Nat → Bool) : ∀ n, ∃ s : Nat → Nat, (∀ j, j < cntN p n → s j < n ∧ p (s j) = true) ∧ (∀ i j, i < j → j < cntN p n → s i < s j) ∧ (∀ (X : Nat → Int) j, j < cntN p n → lf (selL p X n) j = X (s j)) ∧ ∀ i, i < n → p i = true → ∃ j, j < cntN p n ∧ s j = i
  | 0 => ⟨fun _ => 0, fun j hj => by have : j < 0 := hj; omega, fun i j _ hj => by have : j < 0 := hj; omega, fun X j hj => by have : j < 0 := hj; omega, fun i hi => by omega⟩
  | n + 1 => by
    obtain ⟨s, h1, h2, h3, h4⟩ := sel_idx p n
    by_cases hp : p n = true
    · have e : cntN p (n + 1) = cntN p n + 1 := by show cntN p n + (if p n then 1 else 0) = _; rw [if_pos hp]
      have eX : ∀ X : Nat → Int, selL p X (n + 1) = selL p X n ++ [X n] := fun X => by show (if p n then selL p X n ++ [X n] else selL p X n) = _; rw [if_pos hp]
      refine ⟨fun j => if j < cntN p n then s j else n, fun j hj => ?_, fun i j hij hj => ?_, fun X j hj => ?_, fun i hi hpi => ?_⟩
      · rw [e] at hj
        by_cases hj2 : j < cntN p n
        · simp only [if_pos hj2]
          have := h1 j hj2
          exact ⟨by omega, this.2⟩
        · simp only [if_neg hj2]
          exact ⟨by omega, hp⟩
      · rw [e] at hj
        have hi2 : i < cntN p n := by omega
        simp only [if_pos hi2]
        by_cases hj2 : j < cntN p n
        · simp only [if_pos hj2]
          exact h2 i j hij hj2
        · simp only [if_neg hj2]
          exact (h1 i hi2).1
      · rw [e] at hj
        rw [eX, lf_app, selL_len]
        by_cases hj2 : j < cntN p n
        · simp only [if_pos hj2]
          exact h3 X j hj2
        · simp only [if_neg hj2]
          rw [if_pos (by omega)]
      · rw [e]
        by_cases hin : i < n
        · obtain ⟨j, hj, hs⟩ := h4 i hin hpi
          exact ⟨j, by omega, by simp only [if_pos hj]; exact hs⟩
        · exact ⟨cntN p n, by omega, by simp only [Nat.lt_irrefl, if_false]; omega⟩
    · have e : cntN p (n + 1) = cntN p n := by show cntN p n + (if p n then 1 else 0) = _; rw [if_neg hp]; rfl
      have eX : ∀ X : Nat → Int, selL p X (n + 1) = selL p X n := fun X => by show (if p n then selL p X n ++ [X n] else selL p X n) = _; rw [if_neg hp]
      rw [e]
      refine ⟨s, fun j hj => ?_, h2, fun X j hj => by rw [eX]; exact h3 X j hj, fun i hi hpi => ?_⟩
      · have := h1 j hj
        exact ⟨by omega, this.2⟩
      · by_cases hin : i < n
        · exact h4 i hin hpi
        · obtain rfl : i = n := by omega
          exact absurd hpi hp
/-- The first k of the marked places. -/
def firstK (p : Nat → Bool) (k : Nat) (i : Nat) : Bool := p i && decide (cntN p i < k)
theorem firstK_cnt (p : Nat → Bool) (k : Nat) : ∀ n, cntN (firstK p k) n = min k (cntN p n)
  | 0 => by show 0 = min k 0; omega
  | n + 1 => by
    have ih := firstK_cnt p k n
    show cntN (firstK p k) n + (if firstK p k n then 1 else 0) = min k (cntN p n + (if p n then 1 else 0))
    rw [ih]
    unfold firstK
    cases hp : p n
    · simp
    · by_cases h : cntN p n < k
      · simp [h]; omega
      · simp [h]; omega
/-- A choice of places as the bits of a number. -/
def bitP (s : Nat) (i : Nat) : Bool := s / 2 ^ i % 2 == 1
theorem mask_exists (q : Nat → Bool) : ∀ n, ∃ s, s < 2 ^ n ∧ ∀ i, i < n → bitP s i = q i
  | 0 => ⟨0, by decide, fun i hi => by omega⟩
  | n + 1 => by
    obtain ⟨s, hs, hb⟩ := mask_exists (fun i => q (i + 1)) n
    refine ⟨2 * s + (if q 0 then 1 else 0), ?_, fun i hi => ?_⟩
    · rw [Nat.pow_succ]
      split <;> omega
    · cases i with
      | zero =>
        unfold bitP
        rw [Nat.pow_zero, Nat.div_one]
        cases q 0
        · simp
        · have : (2 * s + 1) % 2 = 1 := by omega
          simp [this]
      | succ i =>
        have h := hb i (by omega)
        have e : (2 * s + (if q 0 then 1 else 0)) / 2 ^ (i + 1) = s / 2 ^ i := by
          rw [show 2 ^ (i + 1) = 2 * 2 ^ i by rw [Nat.pow_succ, Nat.mul_comm], ← Nat.div_div_eq_div_mul]
          congr 1
          split <;> omega
        unfold bitP at h ⊢
        rw [e]
        exact h
end Go.Proofs.YtangofjpnhhfeabDoor
namespace Go.Proofs.YtangofjpnhhfeabDoor
theorem tab_ser {f : Int} (hp : 0 < P f) {n : Nat} {O : Nat → Int} (h : ∀ j, 0 ≤ O j ∧ O j < P f) : Ser f n (tab n O) := by
  refine ⟨tab_len _ _, fun j => ?_⟩
  rw [lf_tab]
  split
  · exact h j
  · omega
theorem tab_eq (p : Int) (n : Nat) (O : Nat → Int) : EqN p n (lf (tab n O)) O := fun i hi => by rw [lf_tab, if_pos hi]
theorem inv_tab {p : Int} {n : Nat} {A O : Nat → Int} (h : IsInv p n A O) : IsInv p n A (lf (tab n O)) := ((EqN.refl p n A).mul (tab_eq p n O)).trans h
theorem Ser.ok {f : Int} (hf : 0 ≤ f ∧ f ≤ 8) {n : Nat} {l : List Int} (h : Ser f n l) (n1 : 1 ≤ n) (n2 : n ≤ 64) : SerOk f l := ⟨hf, by rw [h.1]; exact ⟨n1, n2⟩, fun j _ => h.2 j⟩
end Go.Proofs.YtangofjpnhhfeabDoor
namespace Go.Proofs.YtangofjpnhhfeabDoor
theorem Ser.short {f : Int} {a x : List Int} (h : ShortOk f a) (hx : Ser f a.length x) : ShortOk f x := ⟨hx.ok h.1.1 h.1.2.1.1 h.1.2.1.2, by rw [hx.1]; exact h.2⟩
theorem IsLog.congr {p : Int} {n : Nat} {L M A B : Nat → Int} (h : IsLog p n L A) (hL : EqN p n M L) (hA : EqN p n B A) : IsLog p n M B := (hA.th.trans h).trans ((hL.th.mul hA).symm)
end Go.Proofs.YtangofjpnhhfeabDoor
namespace Go.Proofs.YtangofjpnhhfeabDoor
theorem lf_cut_self (l : List Int) : lf (cutL l.length (lf l)) = lf l := funext fun j => by
  rw [lf_cutL]
  split
  · rfl
  · rw [lf_out l (by omega)]
end Go.Proofs.YtangofjpnhhfeabDoor
namespace Go.Proofs.YtangofjpnhhfeabDoor
theorem evL_scale (f x c : Int) (l : List Int) : evL f x (scaleL f l c) = RS (evL f x l * c) (P f) := by
  rw [evL_n (scaleL_le f l c)]
  unfold evL RS
  rw [evN_mod (p := P f) (y := x) (B := fun j => c * lf l j) _ rfl (fun j => by rw [lf_scaleL, Int.mul_comm]; simp), evN_smul, Int.mul_comm c]
  exact (emod_mul_congr (Int.emod_emod_of_dvd _ (Int.dvd_refl _)) rfl).symm
theorem distinct_of {f : Int} {X : Nat → Int} {n : Nat} (hb : ∀ j, j < n → 0 ≤ X j ∧ X j < P f) (hd : ∀ i j, i < j → j < n → X i ≠ X j) : DistinctS f X n := fun i j hi hj hij h => by
  rw [← Int.emod_eq_emod_iff_emod_sub_eq_zero, Int.emod_eq_of_lt (hb i hi).1 (hb i hi).2, Int.emod_eq_of_lt (hb j hj).1 (hb j hj).2] at h
  rcases Nat.lt_or_gt_of_ne hij with h2 | h2
  · exact hd i j h2 hj h
  · exact hd j i h2 hi h.symm
/-- The points but the i-th. -/
def othS (X : Nat → Int) (i : Nat) : Nat → Int := fun j => if j < i then X j else X (j + 1)
/-- The product of the X i - X j, j < k, j other than i, as an element. -/
def byF (f : Int) (X : Nat → Int) (i : Nat) : Nat → Int
  | 0 => 1
  | k + 1 => if k = i then byF f X i k else RS (byF f X i k * RS (X i - X k) (P f)) (P f)
theorem byF_bd {f : Int} (h0 : 0 ≤ f) (h8 : f ≤ 8) (X : Nat → Int) (i : Nat) : ∀ k, 0 ≤ byF f X i k ∧ byF f X i k < P f
  | 0 => by have := P_bd h0 h8; show 0 ≤ (1 : Int) ∧ (1 : Int) < P f; omega
  | k + 1 => by
    have hp := P_bd h0 h8
    show 0 ≤ (if k = i then byF f X i k else RS (byF f X i k * RS (X i - X k) (P f)) (P f)) ∧ (if k = i then byF f X i k else RS (byF f X i k * RS (X i - X k) (P f)) (P f)) < P f
    split
    · exact byF_bd h0 h8 X i k
    · exact RS_bd (by omega)
theorem byF_lo (f : Int) (X : Nat → Int) (i : Nat) : ∀ k, k ≤ i → byF f X i k % P f = pdZ (X i) (othS X i) k % P f
  | 0, _ => rfl
  | k + 1, h => by
    show (if k = i then byF f X i k else RS (byF f X i k * RS (X i - X k) (P f)) (P f)) % P f = (pdZ (X i) (othS X i) k * (X i - othS X i k)) % P f
    rw [if_neg (by omega)]
    have e : othS X i k = X k := if_pos (by omega)
    rw [e]
    unfold RS
    rw [Int.emod_emod_of_dvd _ (Int.dvd_refl _)]
    exact emod_mul_congr (byF_lo f X i k (by omega)) (Int.emod_emod_of_dvd _ (Int.dvd_refl _))
theorem byF_hi (f : Int) (X : Nat → Int) (i : Nat) : ∀ k, i < k → byF f X i k % P f = pdZ (X i) (othS X i) (k - 1) % P f
  | k + 1, h => by
    show (if k = i then byF f X i k else RS (byF f X i k * RS (X i - X k) (P f)) (P f)) % P f = _
    by_cases e : k = i
    · rw [if_pos e]
      subst e
      exact byF_lo f X k k (Nat.le_refl _)
    · rw [if_neg e]
      obtain ⟨m, rfl⟩ : ∃ m, k = m + 1 := ⟨k - 1, by omega⟩
      have e2 : othS X i m = X (m + 1) := if_neg (by omega)
      show _ = (pdZ (X i) (othS X i) m * (X i - othS X i m)) % P f
      rw [e2]
      unfold RS
      rw [Int.emod_emod_of_dvd _ (Int.dvd_refl _)]
      exact emod_mul_congr (byF_hi f X i (m + 1) (by omega)) (Int.emod_emod_of_dvd _ (Int.dvd_refl _))
theorem byF_ne {f : Int} (h0 : 0 ≤ f) (h8 : f ≤ 8) {X : Nat → Int} {n i : Nat} (hd : DistinctS f X n) (hi : i < n) : byF f X i n % P f ≠ 0 := by
  rw [byF_hi f X i n hi]
  refine pdZ_ne h0 h8 fun j hj => ?_
  unfold othS
  split
  · exact hd i j hi (by omega) (by omega)
  · exact hd i (j + 1) hi (by omega) (by omega)
/-- The i-th term of Lagrange's sum. -/
noncomputable def lagT (f : Int) (X Y : Nat → Int) (n i : Nat) : List Int := scaleL f (vanL f (othS X i) (n - 1)) (RS (Y i * mPower f (byF f X i n) (-1)) (P f))
noncomputable def lagL (f : Int) (X Y : Nat → Int) (n : Nat) : Nat → List Int
  | 0 => []
  | i + 1 => addL f (lagL f X Y n i) (lagT f X Y n i)
theorem lagT_len {f : Int} (h0 : 0 ≤ f) (h8 : f ≤ 8) (X Y : Nat → Int) {n : Nat} (n1 : 1 ≤ n) (i : Nat) : (lagT f X Y n i).length ≤ n := by
  have h1 := scaleL_le f (vanL f (othS X i) (n - 1)) (RS (Y i * mPower f (byF f X i n) (-1)) (P f))
  rw [vanL_len h0 h8] at h1
  unfold lagT
  omega
theorem lagL_len {f : Int} (h0 : 0 ≤ f) (h8 : f ≤ 8) (X Y : Nat → Int) {n : Nat} (n1 : 1 ≤ n) : ∀ i, (lagL f X Y n i).length ≤ n
  | 0 => Nat.zero_le _
  | i + 1 => by
    have h1 := lagL_len h0 h8 X Y n1 i
    have h2 := lagT_len h0 h8 X Y n1 i
    have h3 := addL_le f (lagL f X Y n i) (lagT f X Y n i)
    show (addL f (lagL f X Y n i) (lagT f X Y n i)).length ≤ n
    omega
theorem lagL_pol {f : Int} (h0 : 0 ≤ f) (h8 : f ≤ 8) (X Y : Nat → Int) (n : Nat) : ∀ i, Pol f (lagL f X Y n i)
  | 0 => Pol.nil (by have := P_bd h0 h8; omega)
  | _ + 1 => pol_addL h0 h8 _ _
theorem lagT_ev {f : Int} (h0 : 0 ≤ f) (h8 : f ≤ 8) {X Y : Nat → Int} {n i m : Nat} (hd : DistinctS f X n) (hi : i < n) (hm : m < n) : evL f (X m) (lagT f X Y n i) = if m = i then RS (Y i) (P f) else 0 := by
  unfold lagT
  rw [evL_scale, vanL_ev h0 h8]
  by_cases e : m = i
  · subst e
    rw [if_pos rfl]
    have h1 := byF_hi f X m n hi
    have h2 := inv_mul h0 h8 (byF_ne h0 h8 hd hi)
    obtain ⟨V, hV⟩ : ∃ V, mPower f (byF f X m n) (-1) = V := ⟨_, rfl⟩
    rw [hV] at h2 ⊢
    unfold RS
    have h3 : (pdZ (X m) (othS X m) (n - 1) % P f * (Y m * V % P f)) % P f = (byF f X m n * (Y m * V)) % P f := emod_mul_congr (by rw [Int.emod_emod_of_dvd _ (Int.dvd_refl _)]; exact h1.symm) (Int.emod_emod_of_dvd _ (Int.dvd_refl _))
    rw [h3, show byF f X m n * (Y m * V) = Y m * (V * byF f X m n) by rw [Int.mul_left_comm, Int.mul_comm V]]
    have h4 : (Y m * (V * byF f X m n)) % P f = (Y m * 1) % P f := emod_mul_congr rfl h2
    rw [h4, Int.mul_one]
  · rw [if_neg e]
    have h1 : pdZ (X m) (othS X i) (n - 1) = 0 := by
      by_cases hl : m < i
      · exact pdZ_zero (i := m) (by omega) (by unfold othS; rw [if_pos hl])
      · exact pdZ_zero (i := m - 1) (by omega) (by unfold othS; rw [if_neg (by omega), show m - 1 + 1 = m by omega])
    rw [h1]
    simp [RS]
theorem lagL_ev {f : Int} (h0 : 0 ≤ f) (h8 : f ≤ 8) {X Y : Nat → Int} {n m : Nat} (hd : DistinctS f X n) (hm : m < n) : ∀ i, i ≤ n → evL f (X m) (lagL f X Y n i) = if m < i then RS (Y m) (P f) else 0
  | 0, _ => by
    show evL f (X m) [] = _
    simp [evL, evN, sumN, RS]
  | i + 1, h => by
    show evL f (X m) (addL f (lagL f X Y n i) (lagT f X Y n i)) = _
    rw [evL_add, lagL_ev h0 h8 hd hm i (by omega), lagT_ev h0 h8 hd (by omega) hm]
    by_cases h1 : m < i
    · rw [if_pos h1, if_neg (by omega), if_pos (by omega)]
      simp [RS]
    · rw [if_neg h1]
      by_cases h2 : m = i
      · rw [if_pos h2, if_pos (by omega), h2]
        simp [RS]
      · rw [if_neg h2, if_neg (by omega)]
        simp [RS]
/-- The polynomial through the points. -/
def QInter (f : Int) (X Y : Nat → Int) (n : Nat) (a : List Int) : Prop := Pol f a ∧ a.length ≤ n ∧ ∀ i, i < n → evL f (X i) a = Y i
noncomputable def interL (f : Int) (X Y : Nat → Int) (n : Nat) : List Int := theL (QInter f X Y n)
theorem QInter.unique {f : Int} (h0 : 0 ≤ f) (h8 : f ≤ 8) {X Y : Nat → Int} {n : Nat} (hd : DistinctS f X n) {a b : List Int} (ha : QInter f X Y n a) (hb : QInter f X Y n b) : a = b :=
  through_unique h0 h8 hd ha.1 hb.1 ha.2.1 hb.2.1 fun i hi => by rw [ha.2.2 i hi, hb.2.2 i hi]
theorem interL_eq {f : Int} (h0 : 0 ≤ f) (h8 : f ≤ 8) {X Y : Nat → Int} {n : Nat} (hd : DistinctS f X n) {a : List Int} (h : QInter f X Y n a) : interL f X Y n = a := theL_eq (fun _ _ p q => QInter.unique h0 h8 hd p q) h
theorem lagL_is {f : Int} (h0 : 0 ≤ f) (h8 : f ≤ 8) {X Y : Nat → Int} {n : Nat} (n1 : 1 ≤ n) (hd : DistinctS f X n) (hY : ∀ j, j < n → 0 ≤ Y j ∧ Y j < P f) : QInter f X Y n (lagL f X Y n n) :=
  ⟨lagL_pol h0 h8 X Y n n, lagL_len h0 h8 X Y n1 n, fun i hi => by
    rw [lagL_ev h0 h8 hd hi n (Nat.le_refl _), if_pos hi]
    unfold RS
    exact Int.emod_eq_of_lt (hY i hi).1 (hY i hi).2⟩
theorem interL_lag {f : Int} (h0 : 0 ≤ f) (h8 : f ≤ 8) {X Y : Nat → Int} {n : Nat} (n1 : 1 ≤ n) (hd : DistinctS f X n) (hY : ∀ j, j < n → 0 ≤ Y j ∧ Y j < P f) : interL f X Y n = lagL f X Y n n := interL_eq h0 h8 hd (lagL_is h0 h8 n1 hd hY)
theorem interL_is {f : Int} (h0 : 0 ≤ f) (h8 : f ≤ 8) {X Y : Nat → Int} {n : Nat} (n1 : 1 ≤ n) (hd : DistinctS f X n) (hY : ∀ j, j < n → 0 ≤ Y j ∧ Y j < P f) : QInter f X Y n (interL f X Y n) := by
  rw [interL_lag h0 h8 n1 hd hY]
  exact lagL_is h0 h8 n1 hd hY
/-- What the functions ask. -/
def PtsOk (f : Int) (xs : List Int) : Prop := (0 ≤ f ∧ f ≤ 8) ∧ (1 ≤ xs.length ∧ xs.length ≤ 40) ∧ (∀ j, j < xs.length → 0 ≤ lf xs j ∧ lf xs j < P f) ∧ ∀ i j, i < j → j < xs.length → lf xs i ≠ lf xs j
theorem PtsOk.dist {f : Int} {xs : List Int} (h : PtsOk f xs) : DistinctS f (lf xs) xs.length := distinct_of h.2.2.1 h.2.2.2
def ElsOk (f : Int) (l : List Int) : Prop := ∀ j, j < l.length → 0 ≤ lf l j ∧ lf l j < P f
def InterOk (f : Int) (xs ys : List Int) : Prop := PtsOk f xs ∧ ys.length = xs.length ∧ ElsOk f ys
def CodeOk (f : Int) (xs : List Int) (k : Int) : Prop := xs.length ≤ 10 ∧ PtsOk f xs ∧ 1 ≤ k ∧ k ≤ (xs.length : Int)
def WordOk (f : Int) (xs ys : List Int) (k : Int) : Prop := CodeOk f xs k ∧ ys.length = xs.length ∧ ElsOk f ys
/-- The word of a message. -/
def encL (f : Int) (xs m : List Int) : List Int := tab xs.length fun i => RS (evN (lf xs i) (lf m) m.length) (P f)
theorem encL_len (f : Int) (xs m : List Int) : (encL f xs m).length = xs.length := tab_len _ _
theorem encL_at {f : Int} {xs m : List Int} {i : Nat} (h : i < xs.length) : lf (encL f xs m) i = RS (evN (lf xs i) (lf m) m.length) (P f) := by unfold encL; rw [lf_tab, if_pos h]
theorem encL_els {f : Int} (h0 : 0 ≤ f) (h8 : f ≤ 8) (xs m : List Int) : ElsOk f (encL f xs m) := fun j hj => by
  rw [encL_len] at hj
  rw [encL_at hj]
  exact RS_bd (by have := P_bd h0 h8; omega)
/-- In how many places two lists differ. -/
def difP (a b : List Int) (j : Nat) : Bool := decide (a.length ≤ j) || decide (b.length ≤ j) || (lf a j != lf b j)
def difN (a b : List Int) : Nat := cntN (difP a b) (max a.length b.length)
theorem difN_same {a b : List Int} (h : a.length = b.length) : difN a b = cntN (fun j => lf a j != lf b j) a.length := by
  unfold difN
  rw [← h, Nat.max_self]
  exact cntN_congr fun i hi => by
    unfold difP
    rw [← h]
    simp [show ¬ a.length ≤ i by omega]
/-- A message whose word is near. -/
def QDec (f : Int) (xs ys : List Int) (k : Nat) (m : List Int) : Prop := m.length = k ∧ ElsOk f m ∧ difN (encL f xs m) ys ≤ (xs.length - k) / 2
theorem QDec.unique {f : Int} {xs ys : List Int} {k : Nat} (hp : PtsOk f xs) (hy : ys.length = xs.length) (hk : k ≤ xs.length) {a b : List Int} (ha : QDec f xs ys k a) (hb : QDec f xs ys k b) : a = b := by
  have h0 := hp.1.1
  have h8 := hp.1.2
  have da := ha.2.2
  have db := hb.2.2
  rw [difN_same (by rw [encL_len, hy]), encL_len] at da db
  have hne : cntN (fun j => lf (encL f xs a) j != lf (encL f xs b) j) xs.length ≤ cntN (fun j => lf (encL f xs a) j != lf ys j) xs.length + cntN (fun j => lf (encL f xs b) j != lf ys j) xs.length := cntN_or fun i _ hr => by
    simp only [bne_iff_ne, ne_eq] at hr ⊢
    by_cases e : lf (encL f xs a) i = lf ys i
    · exact .inr fun e2 => hr (e.trans e2.symm)
    · exact .inl e
  have hnot := cntN_not (fun j => lf (encL f xs a) j != lf (encL f xs b) j) xs.length
  obtain ⟨s, s1, s2, _, _⟩ := sel_idx (fun j => !(lf (encL f xs a) j != lf (encL f xs b) j)) xs.length
  have hcnt : k ≤ cntN (fun j => !(lf (encL f xs a) j != lf (encL f xs b) j)) xs.length := by omega
  have hd : DistinctS f (fun j => lf xs (s j)) k := distinct_of (fun j hj => hp.2.2.1 (s j) (s1 j (by omega)).1) fun i j hij hj => by
    have h1 := s2 i j hij (by omega)
    have h2 := (s1 j (by omega)).1
    exact hp.2.2.2 (s i) (s j) h1 h2
  have hv := same_values h0 h8 (A := lf a) (B := lf b) hd fun i hi => by
    have h1 := s1 i (by omega)
    have h2 : lf (encL f xs a) (s i) = lf (encL f xs b) (s i) := by
      have := h1.2
      simp only [Bool.not_eq_true', bne_eq_false_iff_eq] at this
      exact this
    rw [encL_at h1.1, encL_at h1.1, ha.1, hb.1] at h2
    exact h2
  refine list_ext (by rw [ha.1, hb.1]) fun j hj => ?_
  have h1 := hv j (by rw [← ha.1]; exact hj)
  have b1 := ha.2.1 j hj
  have b2 := hb.2.1 j (by rw [hb.1, ← ha.1]; exact hj)
  rwa [Int.emod_eq_of_lt b1.1 b1.2, Int.emod_eq_of_lt b2.1 b2.2] at h1
noncomputable def decL (f : Int) (xs ys : List Int) (k : Nat) : List Int := theL (QDec f xs ys k)
theorem decL_eq {f : Int} {xs ys : List Int} {k : Nat} (hp : PtsOk f xs) (hy : ys.length = xs.length) (hk : k ≤ xs.length) {m : List Int} (h : QDec f xs ys k m) : decL f xs ys k = m := theL_eq (fun _ _ p q => QDec.unique hp hy hk p q) h
/-- The message through k chosen places, with zeros behind. -/
noncomputable def tryL (f : Int) (xs ys : List Int) (k : Nat) (p : Nat → Bool) : List Int := padL (interL f (lf (selL p (lf xs) xs.length)) (lf (selL p (lf ys) xs.length)) k) k
theorem sel_dist {f : Int} {xs : List Int} (hp : PtsOk f xs) (p : Nat → Bool) {k : Nat} (hk : cntN p xs.length = k) : DistinctS f (lf (selL p (lf xs) xs.length)) k := by
  obtain ⟨s, s1, s2, s3, _⟩ := sel_idx p xs.length
  refine distinct_of (fun j hj => ?_) fun i j hij hj => ?_
  · rw [s3 _ j (by omega)]
    exact hp.2.2.1 _ (s1 j (by omega)).1
  · rw [s3 _ j (by omega), s3 _ i (by omega)]
    exact hp.2.2.2 _ _ (s2 i j hij (by omega)) (s1 j (by omega)).1
/-- The message is found at some choice of places. -/
theorem QDec.found {f : Int} {xs ys : List Int} {k : Nat} (hp : PtsOk f xs) (hy : ys.length = xs.length) (_k1 : 1 ≤ k) (hk : k ≤ xs.length) {m : List Int} (h : QDec f xs ys k m) : ∃ s, s < 2 ^ xs.length ∧ cntN (bitP s) xs.length = k ∧ tryL f xs ys k (bitP s) = m := by
  have h0 := hp.1.1
  have h8 := hp.1.2
  have d := h.2.2
  rw [difN_same (by rw [encL_len, hy]), encL_len] at d
  have hnot := cntN_not (fun j => lf (encL f xs m) j != lf ys j) xs.length
  obtain ⟨s, hs, hb⟩ := mask_exists (firstK (fun j => !(lf (encL f xs m) j != lf ys j)) k) xs.length
  have hc : cntN (bitP s) xs.length = k := by
    rw [cntN_congr hb, firstK_cnt]
    omega
  refine ⟨s, hs, hc, ?_⟩
  have hdist := sel_dist hp (bitP s) hc
  obtain ⟨t, t1, _, t3, _⟩ := sel_idx (bitP s) xs.length
  have hpol : Pol f (cutL k (lf m)) := Pol.cut (by have := P_bd h0 h8; omega) fun j hj => h.2.1 j (by rw [h.1]; exact hj)
  have hlen := cutL_le k (lf m)
  have elf : lf (cutL k (lf m)) = lf m := by have := lf_cut_self m; rwa [h.1] at this
  have hQ : QInter f (lf (selL (bitP s) (lf xs) xs.length)) (lf (selL (bitP s) (lf ys) xs.length)) k (cutL k (lf m)) := ⟨hpol, hlen, fun i hi => by
    have h1 := t1 i (by omega)
    have h2 := hb (t i) h1.1
    rw [h1.2] at h2
    have h3 : lf (encL f xs m) (t i) = lf ys (t i) := by
      have h5 : firstK (fun j => !(lf (encL f xs m) j != lf ys j)) k (t i) = true := h2.symm
      unfold firstK at h5
      have h4 : (!(lf (encL f xs m) (t i) != lf ys (t i))) = true := (Bool.and_eq_true_iff.1 h5).1
      simp only [Bool.not_eq_true', bne_eq_false_iff_eq] at h4
      exact h4
    rw [t3 _ i (by omega), t3 _ i (by omega), evL_n hlen, elf]
    rw [encL_at h1.1, h.1] at h3
    exact h3⟩
  unfold tryL
  rw [interL_eq h0 h8 hdist hQ]
  refine list_ext (by rw [padL_len, h.1]) fun j hj => ?_
  rw [lf_padL _ hlen, elf]
end Go.Proofs.YtangofjpnhhfeabDoor
namespace Go.Proofs.YtangofjpnhhfeabDoor
open Classical in
noncomputable def mPointsOk (f : Int) (xs : List Int) : Bool := decide (PtsOk f xs)
theorem pts_iff {f : Int} {xs : List Int} : mPointsOk f xs = true ↔ PtsOk f xs := by unfold mPointsOk; simp
theorem pts_not {f : Int} {xs : List Int} : mPointsOk f xs = false ↔ ¬ PtsOk f xs := by unfold mPointsOk; simp
def EncOk (f : Int) (xs m : List Int) : Prop := CodeOk f xs (m.length : Int) ∧ ElsOk f m
open Classical in
noncomputable def mEncodeWord (f : Int) (xs m : List Int) : List Int := if EncOk f xs m then encL f xs m else []
def mDiffer (a b : List Int) : Int := if a.length ≤ 4096 ∧ b.length ≤ 4096 then (difN a b : Int) else -1
def DecOk (f : Int) (xs ys : List Int) (k : Int) : Prop := WordOk f xs ys k ∧ ∃ m, QDec f xs ys k.toNat m
open Classical in
noncomputable def mDecodeWord0 (f : Int) (xs ys : List Int) (k : Int) : List Int := if DecOk f xs ys k then decL f xs ys k.toNat else []
open Classical in
noncomputable def mDecodeWord1 (f : Int) (xs ys : List Int) (k : Int) : Int := if DecOk f xs ys k then (difN (encL f xs (decL f xs ys k.toNat)) ys : Int) else 0
open Classical in
noncomputable def mDecodeWord2 (f : Int) (xs ys : List Int) (k : Int) : Bool := decide (DecOk f xs ys k)
noncomputable def blameL (f : Int) (xs ys : List Int) (k : Nat) : List Int := selL (fun i => lf (encL f xs (decL f xs ys k)) i != lf ys i) (fun i => (i : Int)) xs.length
open Classical in
noncomputable def mBlame (f : Int) (xs ys : List Int) (k : Int) : List Int := if DecOk f xs ys k then blameL f xs ys k.toNat else []
/-- The message found is one that is near. -/
theorem decL_is {f : Int} {xs ys : List Int} {k : Int} (h : DecOk f xs ys k) : QDec f xs ys k.toNat (decL f xs ys k.toNat) := by
  obtain ⟨hw, m, hm⟩ := h
  have hk : k.toNat ≤ xs.length := by have := hw.1.2.2.2; omega
  rw [decL_eq hw.1.2.1 hw.2.1 hk hm]
  exact hm
theorem InterOk.is {f : Int} {xs ys : List Int} (h : InterOk f xs ys) : QInter f (lf xs) (lf ys) xs.length (interL f (lf xs) (lf ys) xs.length) :=
  interL_is h.1.1.1 h.1.1.2 h.1.2.1.1 h.1.dist fun j hj => h.2.2 j (by rw [h.2.1]; exact hj)
end Go.Proofs.YtangofjpnhhfeabDoor
namespace Go.Proofs.YtangofjpnhhfeabDoor
open Go.RowKit
open Classical in
noncomputable def mEls (f : Int) (l : List Int) : Bool := decide ((0 ≤ f ∧ f ≤ 8) ∧ ElsOk f l)
theorem els_on {f : Int} {l : List Int} (h : 0 ≤ f ∧ f ≤ 8) (h2 : ElsOk f l) : mEls f l = true := by unfold mEls; simp only [decide_eq_true_eq]; exact ⟨h, h2⟩
theorem els_off {f : Int} {l : List Int} (h : ¬ ((0 ≤ f ∧ f ≤ 8) ∧ ElsOk f l)) : mEls f l = false := by unfold mEls; simp only [decide_eq_false_iff_not]; exact h
theorem els_c (f : Int) (a : Option Addr) (l : List Int) (cap : Nat) (w : World) (hn : l.length ≤ 1048576) (hs : Src w a l.length (lf l)) : Calls Tryd.prog 42 #[.int .i64 f, .slice a l.length cap] w (SameB w (mEls f l)) := by
  by_cases hf : 0 ≤ f ∧ f ≤ 8
  · refine (elements_c f a l.length cap (lf l) w hf.1 hf.2 hn hs).mono ?_
    rintro e w' ⟨B, hB, rfl, rfl⟩
    refine ⟨?_, rfl⟩
    cases B
    · obtain ⟨k, hk, hx⟩ := hB.2 rfl
      rw [els_off fun h => by have := h.2 k hk; omega]
    · rw [els_on hf (hB.1 rfl)]
  · refine (elements_off f a l.length cap w hf).mono ?_
    rintro e w' ⟨rfl, rfl⟩
    exact ⟨by rw [els_off fun h => hf h.1], rfl⟩
open Classical in
/-- x lies among the first n. -/
noncomputable def hasF (F : Nat → Int) (n : Nat) (x : Int) : Bool := decide (∃ j, j < n ∧ F j = x)
theorem hasF_yes {F : Nat → Int} {n j : Nat} {x : Int} (h : j < n) (e : F j = x) : hasF F n x = true := by
  unfold hasF
  simp only [decide_eq_true_eq]
  exact ⟨j, h, e⟩
theorem hasF_no {F : Nat → Int} {n : Nat} {x : Int} (h : ∀ j, j < n → F j ≠ x) : hasF F n x = false := by
  unfold hasF
  simp only [decide_eq_false_iff_not]
  rintro ⟨j, hj, e⟩
  exact h j hj e
set_option maxRecDepth 100000 in
theorem has_some (b off n cap : Nat) (F : Nat → Int) (x : Int) (w : World) (hn : n ≤ 1048576) (hc : ∀ j, j < n → w.cell? ⟨b, off + j, none⟩ = some (.int .i64 (F j))) : Calls Tryd.prog 47 #[.slice (some ⟨b, off, none⟩) n cap, .int .i64 x] w (SameB w (hasF F n x)) := by
  have HC := Lib.hid hc
  have HY : Hid (∀ j, j < n → F j = x → hasF F n x = true) := Lib.hid fun j h e => hasF_yes h e
  have HN : Hid ((∀ j, j < n → F j ≠ x) → hasF F n x = false) := Lib.hid hasF_no
  clear hc
  generalize hasF F n x = R at *
  go_enter Tryd.func47, Tryd.ntmps47
  go_wp2_with fail
  go_loopw [5] (fun iv wr => ∃ i : Nat, iv = .int .i64 i ∧ i ≤ n ∧ Hid (∀ j, j < i → F j ≠ x) ∧ w = wr) (fun iv _ => n - (intOf iv).toNat)
  case atStart => exact ⟨0, rfl, Nat.zero_le _, Lib.hid fun j hj => by omega, rfl⟩
  case round =>
    obtain ⟨i, rfl, hi, HP, rfl⟩ := hrel
    by_cases h1 : i < n
    · have hd1 : decide ((i : Int) < n) = true := decide_eq_true (by omega)
      have c1 := HC.out i h1
      have hi2 : (i : Int) < n := by omega
      by_cases h2 : F i = x
      · have hd2 : (F i == x) = true := by rw [beq_iff_eq]; exact h2
        have HR := Lib.hid (HY.out i h1 h2)
        clear h2
        go_wp2
        go_ret
        exact ⟨by rw [HR.out]; rfl, rfl⟩
      · have hd2 : (F i == x) = false := by rw [beq_eq_false_iff_ne]; exact h2
        have HP2 : Hid (∀ j, j < i + 1 → F j ≠ x) := Lib.hid fun j hj => by
          by_cases e : j < i
          · exact HP.out j e
          · obtain rfl : j = i := by omega
            exact h2
        clear h2 HP
        go_wp2
        go_roundw
        case rel => exact ⟨i + 1, by go_num, by omega, HP2, trivial⟩
        case measure => simp [intOf]; omega
    · have hd1 : decide ((i : Int) < n) = false := decide_eq_false (by omega)
      obtain rfl : i = n := by omega
      have HR := Lib.hid (HN.out HP.out)
      clear HP
      go_wp2
      go_ret
      exact ⟨by rw [HR.out]; rfl, rfl⟩
theorem has_none (a : Option Addr) (cap : Nat) (F : Nat → Int) (x : Int) (w : World) : Calls Tryd.prog 47 #[.slice a 0 cap, .int .i64 x] w (SameB w (hasF F 0 x)) := by
  have HR : Hid (hasF F 0 x = false) := Lib.hid (hasF_no fun j hj => by omega)
  go_enter Tryd.func47, Tryd.ntmps47
  go_wp2
  refine wp_loop_rounds 1 ?_
  rw [rounds_succ]
  go_wp2
  go_ret
  exact ⟨by rw [HR.out]; rfl, rfl⟩
theorem has_c (a : Option Addr) (n cap : Nat) (F : Nat → Int) (x : Int) (w : World) (hn : n ≤ 1048576) (hs : Src w a n F) : Calls Tryd.prog 47 #[.slice a n cap, .int .i64 x] w (SameB w (hasF F n x)) := by
  rcases hs with rfl | ⟨b, off, rfl, hlt, hc⟩
  · exact has_none a cap F x w
  · exact has_some b off n cap F x w hn hc
theorem drew_add (w : World) (a b : Nat) : (w.drewN a).drewN b = w.drewN (a + b) := by
  induction b with
  | zero => rfl
  | succ b ih => show ((w.drewN a).drewN b).drew = (w.drewN (a + b)).drew; rw [ih]
/-- An answer that leaves memory as it is. -/
def DrewB (w : World) (b : Bool) (e : Ending) (w' : World) : Prop := e = .returned (.bool b) ∧ ∃ q, w' = w.drewN q
set_option maxRecDepth 100000 in
theorem sPointsOk (f : Int) (a : Option Addr) (l : List Int) (cap : Nat) (w : World) (hn : l.length ≤ 1048576) (hs : SrcC w a l.length cap (lf l)) : Calls Tryd.prog 52 #[.int .i64 f, .slice a l.length cap] w (DrewB w (mPointsOk f l)) := by
  have RI := Lib.hid (in_c l.length 1 40 w)
  have RE := Lib.hid (els_c f a l cap w hn hs.src)
  by_cases h1 : 1 ≤ l.length ∧ l.length ≤ 40
  · rw [decide_eq_true (show (1 : Int) ≤ l.length ∧ (l.length : Int) ≤ 40 by omega)] at RI
    by_cases h2 : (0 ≤ f ∧ f ≤ 8) ∧ ElsOk f l
    · rw [els_on h2.1 h2.2] at RE
      obtain ⟨hcap, hs⟩ := hs
      obtain ⟨b, off, rfl, hlt, hc⟩ : ∃ b off, a = some ⟨b, off, none⟩ ∧ b < w.heap.size ∧ ∀ j, j < l.length → w.cell? ⟨b, off + j, none⟩ = some (.int .i64 (lf l j)) := by
        rcases hs with hq | hq
        · omega
        · exact hq
      have HC := Lib.hid hc
      have HY : Hid ((∀ i, i < l.length → ∀ j, j < i → lf l j ≠ lf l i) → mPointsOk f l = true) := Lib.hid fun h => pts_iff.2 ⟨h2.1, h1, h2.2, fun i j hij hj => h j hj i hij⟩
      have HN : Hid (∀ i, i < l.length → hasF (lf l) i (lf l i) = true → mPointsOk f l = false) := Lib.hid fun i hi he => pts_not.2 fun hp => by
        unfold hasF at he
        simp only [decide_eq_true_eq] at he
        obtain ⟨j, hj, e⟩ := he
        exact hp.2.2.2 j i hj hi e
      have HF : Hid (∀ i, hasF (lf l) i (lf l i) = false → ∀ j, j < i → lf l j ≠ lf l i) := Lib.hid fun i he j hj e => by
        rw [hasF_yes hj e] at he
        cases he
      clear hs hc h2
      generalize mPointsOk f l = R at *
      generalize lf l = F at *
      generalize l.length = n at *
      go_enter Tryd.func52, Tryd.ntmps52
      go_wp2_with fail
      refine RI.out.mono ?_
      rintro e w' ⟨rfl, rfl⟩
      go_wp2_with fail
      refine RE.out.mono ?_
      rintro e w' ⟨rfl, rfl⟩
      go_wp2_with fail
      go_loopw [5] (fun iv wr => ∃ i q : Nat, iv = .int .i64 i ∧ i ≤ n ∧ Hid (∀ k, k < i → ∀ j, j < k → F j ≠ F k) ∧ wr = w.drewN q) (fun iv _ => n - (intOf iv).toNat)
      case atStart => exact ⟨0, 0, rfl, Nat.zero_le _, Lib.hid fun j hj => by omega, rfl⟩
      case round =>
        obtain ⟨i, q, rfl, hi, HP, rfl⟩ := hrel
        by_cases h3 : i < n
        · have hd1 : decide ((i : Int) < n) = true := decide_eq_true (by omega)
          have c1 : w.cell? ⟨b, off + i, none⟩ = some (.int .i64 (F i)) := HC.out i h3
          have hi0 : (0 : Int) ≤ (i : Int) := by omega
          have hi1 : (i : Int) < n := by omega
          have hi2 : (i : Int) ≤ cap := by omega
          have HH : Hid (∀ p2, Calls Tryd.prog 47 #[.slice (some ⟨b, off, none⟩) i cap, .int .i64 (F i)] (w.drewN (q + p2)) fun e w' => e = .returned (.bool (hasF F i (F i))) ∧ ∃ n, w' = w.drewN (q + n)) := Lib.hid fun p2 => (has_some b off i cap F (F i) (w.drewN (q + p2)) (by omega) (fun j hj => HC.out j (by omega))).mono fun _ _ h => ⟨h.1, p2, h.2.symm⟩
          cases hB : hasF F i (F i)
          · rw [hB] at HH
            have HP2 : Hid (∀ k, k < i + 1 → ∀ j, j < k → F j ≠ F k) := Lib.hid fun k hk j hj => by
              by_cases e : k < i
              · exact HP.out k e j hj
              · obtain rfl : k = i := by omega
                exact HF.out k hB j hj
            clear hB HP
            go_wp2
            go_quiet ((go_at_call 47; exact HH.out _))
            go_wp2
            go_roundw
            case rel => exact ⟨i + 1, _, by go_num, by omega, HP2, rfl⟩
            case measure => simp [intOf]; omega
          · rw [hB] at HH
            have HR := Lib.hid (HN.out i h3 hB)
            clear hB HP
            go_wp2
            go_quiet ((go_at_call 47; exact HH.out _))
            rename_i nq
            go_wp2
            go_ret
            exact ⟨by rw [HR.out]; rfl, q + nq, drew_add w q nq⟩
        · have hd1 : decide ((i : Int) < n) = false := decide_eq_false (by omega)
          obtain rfl : i = n := by omega
          have HR := Lib.hid (HY.out HP.out)
          clear HP
          go_wp2
          go_ret
          exact ⟨by rw [HR.out]; rfl, _, rfl⟩
    · rw [els_off h2] at RE
      rw [pts_not.2 fun h => h2 ⟨h.1, h.2.2.1⟩]
      clear hs h2
      go_enter Tryd.func52, Tryd.ntmps52
      go_wp2_with fail
      refine RI.out.mono ?_
      rintro e w' ⟨rfl, rfl⟩
      go_wp2_with fail
      refine RE.out.mono ?_
      rintro e w' ⟨rfl, rfl⟩
      go_wp2
      go_ret
      exact ⟨rfl, 0, rfl⟩
  · rw [decide_eq_false (show ¬ ((1 : Int) ≤ l.length ∧ (l.length : Int) ≤ 40) by omega)] at RI
    rw [pts_not.2 fun h => h1 h.2.1]
    clear hs h1 RE
    go_enter Tryd.func52, Tryd.ntmps52
    go_wp2_with fail
    refine RI.out.mono ?_
    rintro e w' ⟨rfl, rfl⟩
    go_wp2
    go_ret
    exact ⟨rfl, 0, rfl⟩
end Go.Proofs.YtangofjpnhhfeabDoor
namespace Go.Proofs.YtangofjpnhhfeabDoor
open Go.RowKit
set_option maxHeartbeats 800000 in
theorem sameZ_some (b off b2 off2 n cap cap2 : Nat) (F : Nat → Int) (w : World) (hn : n ≤ 1048576) (hlt : b < w.heap.size) (hlt2 : b2 < w.heap.size) (hc : ∀ j, j < n → w.cell? ⟨b, off + j, none⟩ = some (.int .i64 (F j))) (hc2 : ∀ j, j < n → w.cell? ⟨b2, off2 + j, none⟩ = some (.int .i64 (F j))) :
    Calls Tryd.prog 25 #[.slice (some ⟨b, off, none⟩) n cap, .slice (some ⟨b2, off2, none⟩) n cap2] w (TrueP w) := by
  have HC := Lib.hid hc
  have HC2 := Lib.hid hc2
  clear hc hc2
  go_enter Tryd.func25, Tryd.ntmps25
  go_wp2_with fail
  go_loopw [5] (fun i wr => ∃ k : Nat, i = .int .i64 k ∧ k ≤ n ∧ Below w.heap.size w wr) (fun i _ => n - (intOf i).toNat)
  case atStart => exact ⟨0, rfl, Nat.zero_le _, Below.refl _ _⟩
  case round =>
    obtain ⟨k, rfl, hk, hb⟩ := hrel
    by_cases h1 : k < n
    · have c1 : wr.cell? ⟨b, off + k, none⟩ = some (.int .i64 (F k)) := (hb.cell (p := ⟨b, off + k, none⟩) hlt).trans (HC.out k h1)
      have c2 : wr.cell? ⟨b2, off2 + k, none⟩ = some (.int .i64 (F k)) := (hb.cell (p := ⟨b2, off2 + k, none⟩) hlt2).trans (HC2.out k h1)
      go_wp2
      go_quiet (fail)
      go_wp2
      go_roundw
      case rel => exact ⟨k + 1, by go_num, by omega, below_drewN hb _⟩
      case measure => simp [intOf]; omega
    · have hd : decide (k < n) = false := by simpa using h1
      go_wp2
      go_ret
      exact ⟨rfl, hb⟩
theorem sameZ_none (a a2 : Option Addr) (cap cap2 : Nat) (w : World) : Calls Tryd.prog 25 #[.slice a 0 cap, .slice a2 0 cap2] w (TrueP w) := by
  go_enter Tryd.func25, Tryd.ntmps25
  go_wp2
  refine wp_loop_rounds 1 ?_
  rw [rounds_succ]
  go_wp2
  go_ret
  exact ⟨rfl, Below.refl _ _⟩
theorem sameZ (a a2 : Option Addr) (l : List Int) (cap cap2 : Nat) (w : World) (hn : l.length ≤ 1048576) (hs : Src w a l.length (lf l)) (hs2 : Src w a2 l.length (lf l)) : Calls Tryd.prog 25 #[.slice a l.length cap, .slice a2 l.length cap2] w (TrueP w) := by
  rcases hs with h | ⟨b, off, rfl, hlt, hc⟩
  · rw [h]; exact sameZ_none a a2 cap cap2 w
  · rcases hs2 with h | ⟨b2, off2, rfl, hlt2, hc2⟩
    · rw [h]; exact sameZ_none _ a2 cap cap2 w
    · exact sameZ_some b off b2 off2 l.length cap cap2 (lf l) w hn hlt hlt2 hc hc2
/-- The state of the loop that draws a list: the cursor's block is g. -/
def ZAt (g : Nat) (w wr : World) (v : Value) (k : Nat) : Prop := (∃ F, wr.ownsRow w.heap.size 3 1 v k (xsF F k)) ∧ Cur g wr ∧ w.grownBy wr (some g) ∧ w.heap.size ≤ wr.heap.size
theorem zxs_more (F : Nat → Int) (k : Nat) (x : Int) : xsF F k ++ [.int .i64 x] = xsF (fun j => if j < k then F j else x) (k + 1) := by
  rw [← xsF_succ, xsF_congr (F := F) (G := fun j => if j < k then F j else x) (fun j hj => by simp [hj])]
  simp
theorem zown_ne {wr : World} {B g : Nat} {v : Value} {k : Nat} {xs : List Value} (hB : g < B) (h : wr.ownsRow B 3 1 v k xs) : v.ownBlock = none ∨ v.ownBlock ≠ some g := by
  refine .inr fun e => ?_
  have := own_ge h g e
  omega
/-- Growth that writes only into a block made since is growth that writes only into g. -/
theorem grown_new {w w1 w2 : World} {g : Nat} {row : Option Nat} (h1 : w.grownBy w1 (some g)) (h2 : w1.grownBy w2 row) (hr : ∀ k, row = some k → w.heap.size ≤ k) : w.grownBy w2 (some g) :=
  ⟨h2.os.trans h1.os, h2.tape.trans h1.tape, h2.output.trans h1.output, Nat.le_trans h1.size h2.size, fun i hi hne => (h2.block i (Nat.lt_of_lt_of_le hi h1.size) (fun e => by have := hr i e.symm; omega)).trans (h1.block i hi hne)⟩
theorem zdraw_step {g : Nat} {w w1 w2 : World} {v v' : Value} {k : Nat} {x : Int} {F : Nat → Int} {o : Obj} (hB : g < w.heap.size) (g1 : w.grownBy w1 (some g)) (c1 : Cur g w1) (hown1 : w1.ownsRow w.heap.size 3 1 v k (xsF F k))
    (hown' : w2.ownsRow w.heap.size 3 1 v' (k + 1) (xsF F k ++ [.int .i64 x])) (hgrow : (w1.alloc o).grownBy w2 v.ownBlock) : ZAt g w w2 v' (k + 1) := by
  have hge := own_ge hown1
  have hg := grown_new (g1.trans (World.grownBy_alloc w1 o (some g))) hgrow hge
  exact ⟨⟨_, by rw [zxs_more] at hown'; exact hown'⟩, (c1.alloc o).other hgrow (fun r hr => by have := hge r hr; omega), hg, hg.size⟩
def ZRow (g : Nat) (w : World) (n : Nat) (e : Ending) (w' : World) : Prop := ∃ v, e = .returned v ∧ ZAt g w w' v n
set_option maxRecDepth 100000 in
set_option maxHeartbeats 1600000 in
theorem drawList_c (g : Nat) (f : Int) (n : Nat) (w : World) (hc : Cur g w) (hn : n ≤ 4096) : Calls Tryd.prog 84 #[.pointer (some ⟨g, 0, none⟩), .int .i64 f, .int .i64 n] w (ZRow g w n) := by
  obtain ⟨i0, hi, hz0, hz1, hz2⟩ := info_parts info3
  have HI := Lib.hid hi
  have HZ0 := Lib.hid hz0
  have HZ1 := Lib.hid hz1
  have HZ2 := Lib.hid hz2
  clear hi hz0 hz1 hz2
  have hB : g < w.heap.size := hc.lt
  go_enter Tryd.func84, Tryd.ntmps84
  go_wp2_with fail
  go_loopw [7, 8] (fun v i wr => ∃ k : Nat, i = .int .i64 k ∧ k ≤ n ∧ ZAt g w wr v k) (fun _ i _ => n - (intOf i).toNat)
  case atStart => exact ⟨0, rfl, by omega, ⟨fun _ => 0, own_empty w (fun _ => 0)⟩, hc.alloc _, World.grownBy_alloc _ _ _, by simp⟩
  case round =>
    obtain ⟨k, rfl, hk, ⟨F, hown⟩, hcur, hbel, hsz⟩ := hrel
    by_cases hlt : k < n
    · have hd : decide ((k : Int) < n) = true := decide_eq_true (by omega)
      go_wp2_with fail
      refine (element_c g f wr hcur).mono ?_
      rintro e w9 ⟨x9, _, rfl, g9, c9⟩
      have hown9 := hown.kept g9 (zown_ne hB hown)
      have hb9 := hbel.trans g9
      have hs9 : w.heap.size ≤ w9.heap.size := Nat.le_trans hsz g9.size
      clear hown hcur hbel g9
      go_wp2_with (at_builtin; refine wpList_append_own _ rfl _ _ 22 rfl w.heap.size 3 i0 (.int .i64 0) 1 8 Tryd.underlying22 HI.out HZ0.out HZ1.out HZ2.out rfl (by decide) _ _ _ rfl (hown9.alloc _) ⟨w9.heap.size, 0, none⟩ 1 1 [.int .i64 x9] rfl rfl ?c1 ?c2 ?c3 ?c4 ?c5 ?_)
      case c1 => exact cell_one_new _ _ _
      case c2 => intro u hu; simp at hu; subst hu; rfl
      case c3 => unfold maxLen; omega
      case c4 => omega
      case c5 => simp; omega
      intro v' w10 hown' hgrow _
      have hst := zdraw_step hB hb9 c9 hown9 hown' hgrow
      clear hgrow hown' hown9 c9 hb9
      go_wp2
      go_roundw
      case rel => exact ⟨k + 1, by go_num, by omega, hst⟩
      case measure => simp [intOf]; omega
    · have hd : decide ((k : Int) < n) = false := decide_eq_false (by omega)
      obtain rfl : k = n := by omega
      go_wp2
      go_ret
      exact ⟨_, rfl, ⟨F, hown⟩, hcur, hbel, hsz⟩
/-- A list apart from the cursor. -/
def SrcO (g : Nat) (w : World) (a : Option Addr) (n : Nat) (F : Nat → Int) : Prop :=
  n = 0 ∨ ∃ b off, a = some ⟨b, off, none⟩ ∧ b ≠ g ∧ b < w.heap.size ∧ ∀ j, j < n → w.cell? ⟨b, off + j, none⟩ = some (.int .i64 (F j))
theorem SrcO.src {g : Nat} {w : World} {a : Option Addr} {n : Nat} {F : Nat → Int} (h : SrcO g w a n F) : Src w a n F := by
  refine h.imp id ?_
  rintro ⟨b, off, e, _, hlt, hc⟩
  exact ⟨b, off, e, hlt, hc⟩
theorem SrcO.grown {g : Nat} {w w' : World} {a : Option Addr} {n : Nat} {F : Nat → Int} (h : SrcO g w a n F) (hg : w.grownBy w' (some g)) : SrcO g w' a n F := by
  refine h.imp id ?_
  rintro ⟨b, off, e, hne, hlt, hc⟩
  exact ⟨b, off, e, hne, Nat.lt_of_lt_of_le hlt hg.size, fun j hj => hg.cell (hc j hj) (fun e => by injection e with e; exact hne e)⟩
theorem SrcO.of {B g : Nat} {w : World} {v : Value} {n : Nat} {F : Nat → Int} (h : w.ownsRow B 3 1 v n (xsF F n)) (hB : g < B) : ∃ a cap, v = .slice a n cap ∧ n ≤ cap ∧ SrcO g w a n F := by
  by_cases hn : n = 0
  · obtain ⟨a, cap, hv, hc, _⟩ := src_of_owns2 h
    exact ⟨a, cap, hv, hc, .inl hn⟩
  · obtain ⟨g2, cap, hv, hg, ho⟩ := OwnV.of_owns h hn
    have hcap : n ≤ cap := by obtain ⟨_, _, h, _⟩ := ho; exact h
    exact ⟨_, cap, hv, hcap, .inr ⟨g2, 0, rfl, by omega, ho.lt, fun j hj => by rw [Nat.zero_add]; exact ho.cell hj⟩⟩
theorem grown_of_below {w w' : World} (g : Nat) (hb : Below w.heap.size w w') : w.grownBy w' (some g) :=
  ⟨hb.os, hb.tape, hb.output, hb.size, fun i hi _ => hb.block i hi⟩
theorem Cur.below {g : Nat} {w w' : World} (h : Cur g w) (hb : Below w.heap.size w w') : Cur g w' :=
  h.other (row := none) ⟨hb.os, hb.tape, hb.output, hb.size, fun i hi _ => hb.block i hi⟩ (fun _ h => by cases h)
/-- The drawn list, in a row of the draw's own. -/
def ZPol (g : Nat) (w : World) (n : Nat) (e : Ending) (w' : World) : Prop := ∃ (l : List Int) (a : Option Addr) (cap : Nat), e = .returned (.slice a l.length cap) ∧ l.length ≤ n ∧ l.length ≤ cap ∧ SrcO g w' a l.length (lf l) ∧ Cur g w' ∧ w.grownBy w' (some g)
theorem ZPol.of {g : Nat} {w w' : World} {v : Value} {n : Nat} {l : List Int} (h : w'.ownsRow w.heap.size 3 1 v l.length (xsF (lf l) l.length)) (hB : g < w.heap.size) (hl : l.length ≤ n) (hc : Cur g w') (hg : w.grownBy w' (some g)) : ZPol g w n (.returned v) w' := by
  obtain ⟨a, cap, rfl, hcap, hs⟩ := SrcO.of h hB
  exact ⟨l, a, cap, rfl, hl, hcap, hs, hc, hg⟩
theorem lf_tabF (n : Nat) (F : Nat → Int) : xsF (lf (tab n F)) n = xsF F n := xsF_congr fun j hj => by rw [lf_tab, if_pos hj]
/-- The row, its last number written anew. -/
theorem owns_to_tab {w : World} {B n : Nat} {v : Value} {F : Nat → Int} (h : w.ownsRow B 3 1 v n (xsF F n)) : w.ownsRow B 3 1 v (tab n F).length (xsF (lf (tab n F)) (tab n F).length) := by
  rw [tab_len, lf_tabF]
  exact h
end Go.Proofs.YtangofjpnhhfeabDoor
namespace Go.Proofs.YtangofjpnhhfeabDoor
open Go.RowKit
theorem OwnV.grown {g : Nat} {w w' : World} {g2 n cap : Nat} {F : Nat → Int} (h : OwnV w g2 n cap F) (hg : w.grownBy w' (some g)) (hne : g2 ≠ g) : OwnV w' g2 n cap F := by
  obtain ⟨V, h1, h2, h3⟩ := h
  have hlt := OwnV.lt ⟨V, h1, h2, h3⟩
  exact ⟨V, World.rowIs.of_block h1 (hg.block g2 hlt (fun e => by injection e with e; exact hne e)), h2, h3⟩
/-- A drawn list, whose row may still be written. -/
def ZVal (g : Nat) (w : World) (n : Nat) (v : Value) (w' : World) : Prop := ∃ l : List Int, l.length ≤ n ∧ (∃ B, g < B ∧ w.heap.size ≤ B ∧ w'.ownsRow B 3 1 v l.length (xsF (lf l) l.length)) ∧ Cur g w' ∧ w.grownBy w' (some g)
theorem ZVal.of {g : Nat} {w w' : World} {n : Nat} {v : Value} (hB : g < w.heap.size) (h : ZAt g w w' v n) : ZVal g w n v w' := by
  obtain ⟨⟨F, ho⟩, hc, hg, hs⟩ := h
  exact ⟨tab n F, by rw [tab_len]; exact Nat.le_refl _, ⟨w.heap.size, hB, Nat.le_refl _, owns_to_tab ho⟩, hc, hg⟩
theorem ZVal.grown {g : Nat} {w w1 w2 : World} {n : Nat} {v : Value} (h : ZVal g w n v w1) (hg : w1.grownBy w2 (some g)) (hc : Cur g w2) : ZVal g w n v w2 := by
  obtain ⟨l, hl, ⟨B, hB, hB2, ho⟩, _, hg1⟩ := h
  exact ⟨l, hl, ⟨B, hB, hB2, ho.kept hg (zown_ne hB ho)⟩, hc, hg1.trans hg⟩
theorem ZVal.cut {g : Nat} {w w1 : World} {n : Nat} {v : Value} (h : ZVal g w n v w1) (hn : n ≤ 4096) : Calls Tryd.prog 70 #[v] w1 fun e w2 => ∃ v2, e = .returned v2 ∧ ZVal g w n v2 w2 := by
  obtain ⟨l, hl, ⟨B, hB, hB2, ho⟩, hc, hg⟩ := h
  refine (cut_own (by omega) ho).mono ?_
  rintro e w2 ⟨v2, rfl, ho2, hb⟩
  have hle := cutL_le l.length (lf l)
  exact ⟨v2, rfl, cutL l.length (lf l), by omega, ⟨w1.heap.size, by have := hc.lt; omega, hg.size, ho2⟩, hc.below hb, hg.trans (grown_of_below g hb)⟩
theorem ZVal.pol {g : Nat} {w w1 : World} {n : Nat} {v : Value} (h : ZVal g w n v w1) : ZPol g w n (.returned v) w1 := by
  obtain ⟨l, hl, ⟨B, hB, hB2, ho⟩, hc, hg⟩ := h
  obtain ⟨a, cap, rfl, hcap, hs⟩ := SrcO.of ho hB
  exact ⟨l, a, cap, rfl, hl, hcap, hs, hc, hg⟩
/-- The value is a slice: empty, or a row that can be written. -/
theorem ZVal.cases {g : Nat} {w w1 : World} {n : Nat} {v : Value} (h : ZVal g w n v w1) : ∃ (l : List Int) (a : Option Addr) (cap : Nat), v = .slice a l.length cap ∧ l.length ≤ n ∧ (l.length = 0 ∨ ∃ g2, a = some ⟨g2, 0, none⟩ ∧ g2 ≠ g ∧ w.heap.size ≤ g2 ∧ OwnV w1 g2 l.length cap (lf l)) := by
  obtain ⟨l, hl, ⟨B, hB, hB2, ho⟩, hc, hg⟩ := h
  by_cases hz : l.length = 0
  · obtain ⟨a, cap, rfl, hcap, hs⟩ := SrcO.of ho hB
    exact ⟨l, a, cap, rfl, hl, .inl hz⟩
  · obtain ⟨g2, cap, rfl, hg2, ho2⟩ := OwnV.of_owns ho hz
    exact ⟨l, _, cap, rfl, hl, .inr ⟨g2, rfl, by omega, by omega, ho2⟩⟩
end Go.Proofs.YtangofjpnhhfeabDoor
namespace Go.Proofs.YtangofjpnhhfeabDoor
open Go.RowKit
/-- A byte of the code, or a number below 256. -/
theorem byteAt_c (a : Option Addr) (len cap i : Nat) (w : World) (hl : len ≤ 1048576) (hi : i ≤ 1000) (hc : Code w a len) : Calls Tryd.prog 27 #[.slice a len cap, .int .i64 i] w fun e w' => ∃ x : Int, e = .returned (.int .i64 x) ∧ 0 ≤ x ∧ x < 256 ∧ w = w' := by
  by_cases h : i < len
  · have hd : decide ((i : Int) < len) = true := decide_eq_true (by omega)
    rcases hc.2 with hz | ⟨b, off, rfl, hne, hlt, hb⟩
    · omega
    · obtain ⟨n, n0, n1, hcell⟩ := hb i h
      go_enter Tryd.func27, Tryd.ntmps27
      go_wp2
      go_ret
      exact ⟨n, rfl, n0, n1, rfl⟩
  · have hd : decide ((i : Int) < len) = false := decide_eq_false (by omega)
    go_enter Tryd.func27, Tryd.ntmps27
    go_wp2
    go_ret
    exact ⟨_, rfl, by omega, by omega, rfl⟩
end Go.Proofs.YtangofjpnhhfeabDoor
namespace Go.Proofs.YtangofjpnhhfeabDoor
open Go.RowKit
theorem owns_keep {w w' : World} {B n : Nat} {v : Value} {xs : List Value} (h : w.ownsRow B 3 1 v n xs) (hb : Below w.heap.size w w') : w'.ownsRow B 3 1 v n xs := h.kept (row := none) ⟨hb.os, hb.tape, hb.output, hb.size, fun i hi _ => hb.block i hi⟩ (by cases v.ownBlock <;> simp)
theorem eval_is {f : Int} {l : List Int} (x : Int) (h : PolOk f l) : mEvalPoly f l x = evL f x l := by unfold mEvalPoly; rw [if_pos h]
end Go.Proofs.YtangofjpnhhfeabDoor
namespace Go.Proofs.YtangofjpnhhfeabDoor
open Go.RowKit
theorem OwnsL.room {w w' : World} {l : List Int} {e : Ending} (h : OwnsL w l e w') : ∃ a cap, e = .returned (.slice a l.length cap) ∧ SrcC w' a l.length cap (lf l) ∧ Below w.heap.size w w' := by
  obtain ⟨v, rfl, ho, hb⟩ := h
  obtain ⟨a, cap, rfl, hcap, hs⟩ := src_of_owns2 ho
  exact ⟨a, cap, rfl, ⟨hcap, hs⟩, hb⟩
end Go.Proofs.YtangofjpnhhfeabDoor
namespace Go.Proofs.YtangofjpnhhfeabDoor
open Go.RowKit
open Classical in
noncomputable def mCode (f : Int) (xs : List Int) (k : Int) : Bool := decide (CodeOk f xs k)
theorem code_iff {f : Int} {xs : List Int} {k : Int} : mCode f xs k = true ↔ CodeOk f xs k := by unfold mCode; simp
theorem code_not {f : Int} {xs : List Int} {k : Int} : mCode f xs k = false ↔ ¬ CodeOk f xs k := by unfold mCode; simp
theorem code_c (f : Int) (a : Option Addr) (xs : List Int) (cap : Nat) (k : Int) (w : World) (hn : xs.length ≤ 1048576) (hs : SrcC w a xs.length cap (lf xs)) : Calls Tryd.prog 41 #[.int .i64 f, .slice a xs.length cap, .int .i64 k] w (DrewB w (mCode f xs k)) := by
  have R := Lib.hid (sPointsOk f a xs cap w hn hs)
  have RI : Hid (∀ q, Calls Tryd.prog 46 #[.int .i64 k, .int .i64 1, .int .i64 xs.length] (w.drewN q) (SameB (w.drewN q) (decide (1 ≤ k ∧ k ≤ (xs.length : Int))))) := Lib.hid fun q => in_c k 1 xs.length (w.drewN q)
  clear hs
  by_cases h1 : xs.length ≤ 10
  · have hd1 : decide ((xs.length : Int) ≤ 10) = true := decide_eq_true (by omega)
    by_cases h2 : PtsOk f xs
    · rw [pts_iff.2 h2] at R
      have HR : Hid (decide (1 ≤ k ∧ k ≤ (xs.length : Int)) = mCode f xs k) := Lib.hid (by
        by_cases h3 : 1 ≤ k ∧ k ≤ (xs.length : Int)
        · rw [decide_eq_true h3, code_iff.2 ⟨h1, h2, h3⟩]
        · rw [decide_eq_false h3, code_not.2 fun h => h3 h.2.2])
      rw [HR.out] at RI
      clear h2 h1 HR
      generalize mCode f xs k = B at *
      go_enter Tryd.func41, Tryd.ntmps41
      go_wp2_with fail
      refine R.out.mono ?_
      rintro e w' ⟨rfl, q, rfl⟩
      go_wp2_with fail
      refine (RI.out q).mono ?_
      rintro e w' ⟨rfl, rfl⟩
      go_wp2
      go_ret
      exact ⟨rfl, q, rfl⟩
    · rw [pts_not.2 h2] at R
      rw [code_not.2 fun h => h2 h.2.1]
      clear h2 h1
      go_enter Tryd.func41, Tryd.ntmps41
      go_wp2_with fail
      refine R.out.mono ?_
      rintro e w' ⟨rfl, q, rfl⟩
      go_wp2
      go_ret
      exact ⟨rfl, q, rfl⟩
  · have hd1 : decide ((xs.length : Int) ≤ 10) = false := decide_eq_false (by omega)
    rw [code_not.2 fun h => h1 h.1]
    clear h1
    go_enter Tryd.func41, Tryd.ntmps41
    go_wp2
    go_ret
    exact ⟨rfl, 0, rfl⟩
theorem code_ok {f : Int} {xs : List Int} {k : Int} (h : CodeOk f xs k) : (0 ≤ f ∧ f ≤ 8) ∧ 1 ≤ xs.length ∧ xs.length ≤ 10 ∧ 1 ≤ k ∧ k ≤ 10 := ⟨h.2.1.1, h.2.1.2.1.1, h.1, h.2.2.1, by have := h.2.2.2; have := h.1; omega⟩
set_option maxRecDepth 100000 in
set_option maxHeartbeats 6400000 in
theorem enc_on (f : Int) (a : Option Addr) (xs : List Int) (cap : Nat) (a2 : Option Addr) (m : List Int) (cap2 : Nat) (w : World) (hn : xs.length ≤ 1048576) (hn2 : m.length ≤ 1048576) (hs : SrcC w a xs.length cap (lf xs)) (hs2 : SrcC w a2 m.length cap2 (lf m)) (h : EncOk f xs m) : Calls Tryd.prog 38 #[.int .i64 f, .slice a xs.length cap, .slice a2 m.length cap2] w (OwnsL w (encL f xs m)) := by
  have BA : Hid (∀ o, Below w.heap.size w (w.alloc o)) := Lib.hid fun o => (Below.refl _ _).alloc (Nat.le_refl _) o
  have R : Hid (∀ o, Calls Tryd.prog 41 #[.int .i64 f, .slice a xs.length cap, .int .i64 m.length] (w.alloc o) (DrewB (w.alloc o) true)) := Lib.hid fun o => by
    have := code_c f a xs cap m.length (w.alloc o) hn (hs.keep (BA.out o))
    rwa [code_iff.2 h.1] at this
  have RE : Hid (∀ o q, Calls Tryd.prog 42 #[.int .i64 f, .slice a2 m.length cap2] ((w.alloc o).drewN q) (SameB ((w.alloc o).drewN q) true)) := Lib.hid fun o q => by
    have := els_c f a2 m cap2 ((w.alloc o).drewN q) hn2 (hs2.src.keep (below_drewN (BA.out o) q))
    rwa [els_on h.1.2.1.1 h.2] at this
  obtain ⟨hf, x1, x10, k1, k10⟩ := code_ok h.1
  obtain ⟨b, off, rfl, hlt, hc⟩ : ∃ b off, a = some ⟨b, off, none⟩ ∧ b < w.heap.size ∧ ∀ j, j < xs.length → w.cell? ⟨b, off + j, none⟩ = some (.int .i64 (lf xs j)) := by
    rcases hs.src with hq | hq
    · omega
    · exact hq
  have HC := Lib.hid hc
  have HPC : Hid (∀ W, Below w.heap.size w W → Calls Tryd.prog 70 #[.slice a2 m.length cap2] W (OwnsL W (cutL m.length (lf m)))) := Lib.hid fun W hb => cut_c a2 m.length cap2 (lf m) W hn2 hs2.1 (hs2.src.keep hb)
  have cpol : PolOk f (cutL m.length (lf m)) := ⟨hf, by have := cutL_le m.length (lf m); omega, Pol.cut (by have := P_bd hf.1 hf.2; omega) h.2⟩
  have HPE : Hid (∀ (y : Option Addr) (d : Nat) (x : Int) W, Src W y (cutL m.length (lf m)).length (lf (cutL m.length (lf m))) → Calls Tryd.prog 30 #[.int .i64 f, .slice y (cutL m.length (lf m)).length d, .int .i64 x] W (IntP W (RS (evN x (lf m) m.length) (P f)))) := Lib.hid fun y d x W hy => by
    have := sEvalPoly f y (cutL m.length (lf m)) d x W (by have := cpol.2.1; omega) hy
    rwa [eval_is x cpol, evL_n (cutL_le m.length (lf m)), lf_cut_self] at this
  have HF : Hid (∀ v W, W.ownsRow w.heap.size 3 1 v xs.length (xsF (fun i => RS (evN (lf xs i) (lf m) m.length) (P f)) xs.length) → Below w.heap.size w W → OwnsL w (encL f xs m) (.returned v) W) := Lib.hid fun v W ho hb => owns_to (w := w) (l := encL f xs m) ho (tab_len _ _).symm (fun j hj => by unfold encL; rw [lf_tab, if_pos hj]) hb
  obtain ⟨i0, hi, hz0, hz1, hz2⟩ := info_parts info3
  have HI := Lib.hid hi
  have HZ0 := Lib.hid hz0
  have HZ1 := Lib.hid hz1
  have HZ2 := Lib.hid hz2
  clear hi hz0 hz1 hz2 hs hs2 hc h cpol
  generalize encL f xs m = EL at *
  generalize cutL m.length (lf m) = CL at *
  generalize lf m = M at *
  generalize lf xs = X at *
  generalize xs.length = n at *
  generalize m.length = r at *
  go_enter Tryd.func38, Tryd.ntmps38
  go_wp2_with fail
  refine (R.out _).mono ?_
  rintro e w' ⟨rfl, q0, rfl⟩
  have HO0 : Hid (((w.alloc (.cells #[] 3)).drewN q0).ownsRow w.heap.size 3 1 (.slice (some ⟨w.heap.size, 0, none⟩) 0 0) 0 (xsF (fun i => RS (evN (X i) M r) (P f)) 0)) := Lib.hid (own_empty w _)
  have HB0 := Lib.hid (below_drewN (BA.out (.cells #[] 3)) q0)
  go_wp2_with fail
  refine (RE.out _ _).mono ?_
  rintro e w' ⟨rfl, rfl⟩
  clear R RE
  go_wp2_with fail
  go_loopw [7, 8] (fun v iv wr => ∃ i : Nat, iv = .int .i64 i ∧ i ≤ n ∧ wr.ownsRow w.heap.size 3 1 v i (xsF (fun i => RS (evN (X i) M r) (P f)) i) ∧ Below w.heap.size w wr) (fun _ iv _ => n - (intOf iv).toNat)
  case atStart => exact ⟨0, rfl, Nat.zero_le _, HO0.out, HB0.out⟩
  case round =>
    clear HO0 HB0
    obtain ⟨i, rfl, hin, hown, hnx⟩ := hrel
    by_cases h1 : i < n
    · have hd1 : decide ((i : Int) < n) = true := decide_eq_true (by omega)
      have hge := own_ge hown
      have hsz := hnx.size
      have kX : wr.cell? ⟨b, off + i, none⟩ = some (.int .i64 (X i)) := (hnx.cell (p := ⟨b, off + i, none⟩) hlt).trans (HC.out i h1)
      have kXd : wr.drew.cell? ⟨b, off + i, none⟩ = some (.int .i64 (X i)) := kX
      have hi0 : (0 : Int) ≤ (i : Int) := by omega
      have hi2 : (i : Int) < n := by omega
      have hbd : Below w.heap.size w wr.drew := hnx.drew
      have hwd : Below wr.heap.size wr wr.drew := (Below.refl _ _).drew
      go_wp2_with fail
      go_region_held3 (fun W => W.cell? ⟨b, off + i, none⟩ = some (.int .i64 (X i)))
        (first
          | exact kX
          | exact kXd
          | exact kX4
          | exact kX5
          | go_keep
          | (rw [hgrow.cell_far _ (by simp; omega) (fun e => by have h9 : w.heap.size ≤ b := hge _ e.symm; omega)]; assumption))
        (first
          | (go_at_call 70; refine (HPC.out _ hbd).mono ?_; intro e w4 h4; obtain ⟨y4, d4, rfl, s4, b4⟩ := h4.room; have b5 := below_up hwd b4 hwd.size; have kX4 := (b4.cell (p := ⟨b, off + i, none⟩) (block_lt_of_cell kXd)).trans kXd)
          | (go_at_call 30; refine (HPE.out y4 d4 (X i) _ s4.2).mono ?_; rintro e w5 ⟨rfl, b6⟩; have b7 := below_up b5 b6 b5.size; have b8 := below_up hnx b7 hsz; have hs8 := b8.size; have kX5 := (b6.cell (p := ⟨b, off + i, none⟩) (block_lt_of_cell kX4)).trans kX4; have hown5 := owns_keep hown b7)
          | (refine step_append_lies _ (by rfl) _ _ _ (by rfl) w.heap.size 3 i0 _ 1 8 Tryd.underlying22 HI.out HZ0.out HZ1.out HZ2.out rfl (by omega) _ i _ (by rfl) (hown5.alloc _) ⟨w5.heap.size, 0, none⟩ 1 1 [.int .i64 (RS (evN (X i) M r) (P f))] (by rfl) (by rfl) (World.news_of_block (cs := #[.int .i64 (RS (evN (X i) M r) (P f))]) (t := 3) (fr := (0, 0)) (heap_alloc_new w5 _)) (by simp [Value.oneCell']) (by omega) (by unfold maxLen; omega) (by omega) (by simp; omega) (w5.heap.size + 1) (by simp) ?_; intro gg cap' w1 hown' hgrow hat hlt'))
      all_goals
        have hbel : Below w.heap.size w w1 := (b8.alloc hs8 _).grown hgrow (by simp; omega) hge
        rw [xsF_succ (fun i => RS (evN (X i) M r) (P f))] at hown'
        clear hgrow hown hown5 kX kXd kX4 kX5 s4 b4 b5 b6 b7 b8 hat hlt'
        go_wp2
        go_roundw
      case rel => exact ⟨i + 1, by go_num, by omega, hown', hbel⟩
      case measure => simp [intOf]; omega
    · have hd1 : decide ((i : Int) < n) = false := decide_eq_false (by omega)
      obtain rfl : i = n := by omega
      have HR := Lib.hid (HF.out _ wr hown hnx)
      clear hown
      go_wp2
      go_ret
      exact HR.out
theorem sEncodeWord (f : Int) (a : Option Addr) (xs : List Int) (cap : Nat) (a2 : Option Addr) (m : List Int) (cap2 : Nat) (w : World) (hn : xs.length ≤ 1048576) (hn2 : m.length ≤ 1048576) (hs : SrcC w a xs.length cap (lf xs)) (hs2 : SrcC w a2 m.length cap2 (lf m)) : Calls Tryd.prog 38 #[.int .i64 f, .slice a xs.length cap, .slice a2 m.length cap2] w (ListL w (mEncodeWord f xs m)) := by
  by_cases h : EncOk f xs m
  · rw [show mEncodeWord f xs m = encL f xs m by unfold mEncodeWord; rw [if_pos h]]
    exact (enc_on f a xs cap a2 m cap2 w hn hn2 hs hs2 h).mono fun _ _ h => h.list
  · rw [show mEncodeWord f xs m = [] by unfold mEncodeWord; rw [if_neg h]]
    have BA : Hid (∀ o, Below w.heap.size w (w.alloc o)) := Lib.hid fun o => (Below.refl _ _).alloc (Nat.le_refl _) o
    have HB : Hid (∀ o q, Below w.heap.size w ((w.alloc o).drewN q)) := Lib.hid fun o q => below_drewN (BA.out o) q
    have R : Hid (∀ o, Calls Tryd.prog 41 #[.int .i64 f, .slice a xs.length cap, .int .i64 m.length] (w.alloc o) (DrewB (w.alloc o) (mCode f xs m.length))) := Lib.hid fun o => code_c f a xs cap m.length (w.alloc o) hn (hs.keep (BA.out o))
    by_cases h2 : CodeOk f xs m.length
    · rw [code_iff.2 h2] at R
      have RE : Hid (∀ o q, Calls Tryd.prog 42 #[.int .i64 f, .slice a2 m.length cap2] ((w.alloc o).drewN q) (SameB ((w.alloc o).drewN q) false)) := Lib.hid fun o q => by
        have := els_c f a2 m cap2 ((w.alloc o).drewN q) hn2 (hs2.src.keep (below_drewN (BA.out o) q))
        rwa [els_off fun h3 => h ⟨h2, h3.2⟩] at this
      clear hs hs2 h h2
      go_enter Tryd.func38, Tryd.ntmps38
      go_wp2_with fail
      refine (R.out _).mono ?_
      rintro e w' ⟨rfl, q, rfl⟩
      go_wp2_with fail
      refine (RE.out _ q).mono ?_
      rintro e w' ⟨rfl, rfl⟩
      go_wp2
      go_ret
      exact ⟨none, 0, rfl, .inl rfl, HB.out _ q⟩
    · rw [code_not.2 h2] at R
      clear hs hs2 h h2
      go_enter Tryd.func38, Tryd.ntmps38
      go_wp2_with fail
      refine (R.out _).mono ?_
      rintro e w' ⟨rfl, q, rfl⟩
      go_wp2
      go_ret
      exact ⟨none, 0, rfl, .inl rfl, HB.out _ q⟩
end Go.Proofs.YtangofjpnhhfeabDoor
namespace Go.Proofs.YtangofjpnhhfeabDoor
open Go.RowKit
/-- A list, a number and a word. -/
def ListIB (w : World) (l : List Int) (d : Int) (b : Bool) (e : Ending) (w' : World) : Prop := ∃ a cap, e = .returned (.tuple #[.slice a l.length cap, .int .i64 d, .bool b]) ∧ l.length ≤ cap ∧ Src w' a l.length (lf l) ∧ Below w.heap.size w w'
theorem own_lower {w : World} {B B' : Nat} {v : Value} {n : Nat} {xs : List Value} (h : w.ownsRow B 3 1 v n xs) (hB : B' ≤ B) : w.ownsRow B' 3 1 v n xs := by
  obtain ⟨h1, h2⟩ := h
  refine ⟨h1, h2.imp id ?_⟩
  rintro ⟨g, cap, cur, rfl, hg, rest⟩
  exact ⟨g, cap, cur, rfl, by omega, rest⟩
theorem sel_yes {p : Nat → Bool} (X : Nat → Int) {i : Nat} (h : p i = true) : xsF (lf (selL p X i)) (cntN p i) ++ [.int .i64 (X i)] = xsF (lf (selL p X (i + 1))) (cntN p (i + 1)) ∧ cntN p i + 1 = cntN p (i + 1) := by
  have e : cntN p (i + 1) = cntN p i + 1 := by show cntN p i + (if p i then 1 else 0) = _; rw [if_pos h]
  have eX : selL p X (i + 1) = selL p X i ++ [X i] := by show (if p i then selL p X i ++ [X i] else selL p X i) = _; rw [if_pos h]
  refine ⟨?_, e.symm⟩
  rw [e, ← xsF_succ, eX]
  congr 1
  · exact xsF_congr fun j hj => by rw [lf_app, selL_len, if_pos hj]
  · rw [lf_app, selL_len, if_neg (by omega), if_pos rfl]
theorem sel_no {p : Nat → Bool} (X : Nat → Int) {i : Nat} (h : p i = false) : selL p X (i + 1) = selL p X i ∧ cntN p (i + 1) = cntN p i := by
  constructor
  · show (if p i then selL p X i ++ [X i] else selL p X i) = _; rw [h]; rfl
  · show cntN p i + (if p i then 1 else 0) = _; rw [h]; rfl
end Go.Proofs.YtangofjpnhhfeabDoor
namespace Go.Proofs.YtangofjpnhhfeabDoor
theorem toNat_nat (k : Nat) : ((k : Nat) : Int).toNat = k := Int.toNat_natCast k
/-- A word that is bent at few places is read back, and the places are found. -/
theorem bent_back {f : Int} {xs m y : List Int} (h : EncOk f xs m) (hy : y.length = xs.length) (he : ElsOk f y) (p : Nat → Bool) (hp : ∀ i, i < xs.length → (lf (encL f xs m) i != lf y i) = p i) (hc : cntN p xs.length ≤ (xs.length - m.length) / 2) :
    DecOk f xs y (m.length : Int) ∧ mDecodeWord0 f xs y (m.length : Int) = m ∧ mDecodeWord1 f xs y (m.length : Int) = (cntN p xs.length : Nat) ∧ mDecodeWord2 f xs y (m.length : Int) = true ∧ mBlame f xs y (m.length : Int) = selL p (fun i => (i : Int)) xs.length ∧ difN (encL f xs m) y = cntN p xs.length := by
  have hw : WordOk f xs y (m.length : Int) := ⟨h.1, hy, he⟩
  have hd : difN (encL f xs m) y = cntN p xs.length := by
    rw [difN_same (by rw [encL_len, hy]), encL_len]
    exact cntN_congr hp
  have hq : QDec f xs y m.length m := ⟨rfl, h.2, by rw [hd]; exact hc⟩
  have hk : m.length ≤ xs.length := by have := h.1.2.2.2; omega
  have e : ((m.length : Nat) : Int).toNat = m.length := toNat_nat _
  have hdec : DecOk f xs y (m.length : Int) := ⟨hw, m, by rw [e]; exact hq⟩
  have hm : decL f xs y m.length = m := decL_eq h.1.2.1 hy hk hq
  refine ⟨hdec, ?_, ?_, ?_, ?_, hd⟩
  · unfold mDecodeWord0
    rw [if_pos hdec, e, hm]
  · unfold mDecodeWord1
    rw [if_pos hdec, e, hm, hd]
  · unfold mDecodeWord2
    simp [hdec]
  · unfold mBlame blameL
    rw [if_pos hdec, e, hm]
    exact selL_congr _ hp
/-- Adding what is no multiple of the modulus changes an element. -/
theorem bend_ne {f : Int} (h0 : 0 ≤ f) (h8 : f ≤ 8) {y z : Int} (y0 : 0 ≤ y) (y1 : y < P f) (z0 : 1 ≤ z) (z1 : z < P f) : y ≠ RS (y + z) (P f) ∧ 0 ≤ RS (y + z) (P f) ∧ RS (y + z) (P f) < P f := by
  have hp := P_bd h0 h8
  refine ⟨fun e => ?_, RS_bd (by omega)⟩
  unfold RS at e
  have h1 : y % P f = (y + z) % P f := by rw [Int.emod_eq_of_lt y0 y1]; exact e
  rw [Int.emod_eq_emod_iff_emod_sub_eq_zero] at h1
  rw [show y - (y + z) = -z by omega] at h1
  have h2 := Int.dvd_of_emod_eq_zero h1
  have h3 : P f ∣ z := (Int.dvd_neg).1 h2
  have := Int.le_of_dvd (by omega) h3
  omega
end Go.Proofs.YtangofjpnhhfeabDoor
namespace Go.Proofs.YtangofjpnhhfeabDoor
theorem lf_oneL : lf [1] = oneS := funext fun j => by
  match j with
  | 0 => rfl
  | j + 1 => rfl
theorem emm (x p : Int) : x % p % p = x % p := Int.emod_emod_of_dvd _ (Int.dvd_refl _)
theorem mulL_one {f : Int} (h0 : 0 ≤ f) (h8 : f ≤ 8) {a : List Int} (ha : Pol f a) : mulL f a [1] = a := by
  refine Pol.eq (pol_mulL h0 h8 _ _) ha fun j => ?_
  rw [lf_mulL, emm, cv_comm, lf_oneL]
  have := congrFun (one_mul (lf a)) j
  show mulS oneS (lf a) j % P f = _
  rw [this]
theorem one_mulL {f : Int} (h0 : 0 ≤ f) (h8 : f ≤ 8) {a : List Int} (ha : Pol f a) : mulL f [1] a = a := by rw [mulL_comm, mulL_one h0 h8 ha]
theorem mulL_assoc {f : Int} (h0 : 0 ≤ f) (h8 : f ≤ 8) (a b c : List Int) : mulL f (mulL f a b) c = mulL f a (mulL f b c) := by
  refine Pol.eq (pol_mulL h0 h8 _ _) (pol_mulL h0 h8 _ _) fun j => ?_
  rw [lf_mulL, lf_mulL, emm, emm]
  have h1 : cv j (lf (mulL f a b)) (lf c) % P f = cv j (mulS (lf a) (lf b)) (lf c) % P f := cv_mod j (fun i => by rw [lf_mulL, emm]; rfl) (fun _ => rfl)
  have h2 : cv j (lf a) (lf (mulL f b c)) % P f = cv j (lf a) (mulS (lf b) (lf c)) % P f := cv_mod j (fun _ => rfl) (fun i => by rw [lf_mulL, emm]; rfl)
  rw [h1, h2, cv_assoc]
theorem vanL_congr {f : Int} {X Y : Nat → Int} : ∀ {n : Nat}, (∀ i, i < n → X i = Y i) → vanL f X n = vanL f Y n
  | 0, _ => rfl
  | n + 1, h => by
    show mulL f (vanL f X n) (linL f (X n)) = mulL f (vanL f Y n) (linL f (Y n))
    rw [vanL_congr fun i hi => h i (by omega), h n (by omega)]
theorem pdZ_congr {x : Int} {X Y : Nat → Int} : ∀ {n : Nat}, (∀ i, i < n → X i = Y i) → pdZ x X n = pdZ x Y n
  | 0, _ => rfl
  | n + 1, h => by
    show pdZ x X n * (x - X n) = pdZ x Y n * (x - Y n)
    rw [pdZ_congr fun i hi => h i (by omega), h n (by omega)]
theorem vanL_add {f : Int} (h0 : 0 ≤ f) (h8 : f ≤ 8) (X : Nat → Int) (m : Nat) : ∀ n, vanL f X (m + n) = mulL f (vanL f X m) (vanL f (fun j => X (m + j)) n)
  | 0 => (mulL_one h0 h8 (vanL_pol h0 h8 X m)).symm
  | n + 1 => by
    show mulL f (vanL f X (m + n)) (linL f (X (m + n))) = mulL f (vanL f X m) (mulL f (vanL f (fun j => X (m + j)) n) (linL f (X (m + n))))
    rw [vanL_add h0 h8 X m n, mulL_assoc h0 h8]
theorem pdZ_add (x : Int) (X : Nat → Int) (m : Nat) : ∀ n, pdZ x X (m + n) = pdZ x X m * pdZ x (fun j => X (m + j)) n
  | 0 => (Int.mul_one _).symm
  | n + 1 => by
    show pdZ x X (m + n) * (x - X (m + n)) = pdZ x X m * (pdZ x (fun j => X (m + j)) n * (x - X (m + n)))
    rw [pdZ_add x X m n, Int.mul_assoc]
theorem vanL_leaf {f : Int} (h0 : 0 ≤ f) (h8 : f ≤ 8) (X : Nat → Int) : vanL f X 1 = linL f (X 0) := one_mulL h0 h8 (linL_pol h0 h8 _)
/-- One factor moved to the end. -/
theorem vanL_out {f : Int} (h0 : 0 ≤ f) (h8 : f ≤ 8) (X : Nat → Int) (i : Nat) : ∀ n, i ≤ n → vanL f X (n + 1) = mulL f (vanL f (othS X i) n) (linL f (X i))
  | 0, h => by
    obtain rfl : i = 0 := by omega
    rfl
  | n + 1, h => by
    show mulL f (vanL f X (n + 1)) (linL f (X (n + 1))) = _
    by_cases e : i = n + 1
    · subst e
      rw [vanL_congr (X := othS X (n + 1)) (Y := X) fun j hj => if_pos hj]
    · rw [vanL_out h0 h8 X i n (by omega)]
      show _ = mulL f (mulL f (vanL f (othS X i) n) (linL f (othS X i n))) (linL f (X i))
      have e2 : othS X i n = X (n + 1) := if_neg (by omega)
      rw [e2, mulL_assoc h0 h8, mulL_assoc h0 h8, mulL_comm f (linL f (X i))]
theorem lf_derL (f : Int) (a : List Int) (j : Nat) : lf (derL f a) j = (((j : Int) + 1) * lf a (j + 1)) % P f := by
  unfold derL
  rw [lf_cutL]
  split
  · rfl
  · rw [lf_out a (by omega), Int.mul_zero]; rfl
theorem der_sum (c : Int) (G : Nat → Int) : ∀ n : Nat, evN c (fun j => ((j : Int) + 1) * (G (j + 1) * (-c) + G j)) n = evN c G n - n * G n * c ^ n
  | 0 => by simp [evN, sumN]
  | n + 1 => by
    have ih := der_sum c G n
    unfold evN at ih ⊢
    show sumN _ n + ((n : Int) + 1) * (G (n + 1) * (-c) + G n) * c ^ n = (sumN _ n + G n * c ^ n) - ((n + 1 : Nat) : Int) * G (n + 1) * c ^ (n + 1)
    rw [ih, Int.pow_succ]
    obtain ⟨S, hS⟩ : ∃ S, sumN (fun i => G i * c ^ i) n = S := ⟨_, rfl⟩
    obtain ⟨C, hC⟩ : ∃ C, c ^ n = C := ⟨_, rfl⟩
    rw [hS, hC]
    have e1 : ((n : Int) + 1) * (G (n + 1) * (-c) + G n) * C = -(((n : Int) + 1) * G (n + 1) * (C * c)) + (n * G n * C + G n * C) := by
      rw [Int.mul_add, Int.add_mul, Int.mul_neg, Int.mul_neg, Int.neg_mul]
      congr 1
      · congr 1
        rw [← Int.mul_assoc, Int.mul_assoc _ c C, Int.mul_comm c C]
      · rw [Int.add_mul, Int.add_mul, Int.one_mul]
    rw [e1]
    push_cast
    omega
/-- The derivative of a product with x - c at c. -/
theorem der_at {f : Int} (_h0 : 0 ≤ f) (_h8 : f ≤ 8) (c : Int) (g : List Int) : evL f c (derL f (mulL f g (linL f c))) = evL f c g := by
  have l1 := mulL_le f g (linL f c)
  have l2 := derL_le f (mulL f g (linL f c))
  have l3 : (linL f c).length = 2 := rfl
  rw [evL_n (n := g.length) (by omega)]
  unfold evL RS
  have e1 : evN c (lf (derL f (mulL f g (linL f c)))) g.length % P f = evN c (fun j => ((j : Int) + 1) * (lf g (j + 1) * (-c) + lf g j)) g.length % P f := evN_mod _ rfl fun j => by
    rw [lf_derL, emm]
    refine emod_mul_congr rfl ?_
    rw [lf_mulL, emm, cv_right]
    have e2 : tl (lf (linL f c)) = lf [1] := funext fun j => by
      match j with
      | 0 => rfl
      | j + 1 => rfl
    rw [e2, lf_oneL, cv_comm]
    have e3 : cv j oneS (lf g) = lf g j := congrFun (one_mul (lf g)) j
    rw [e3]
    refine emod_add_congr (emod_mul_congr rfl ?_) rfl
    show RS (0 - c) (P f) % P f = _
    unfold RS
    rw [emm, Int.zero_sub]
  rw [e1, der_sum, lf_out g (Nat.le_refl _)]
  simp
/-- The derivative of the product at one of its points. -/
theorem der_van {f : Int} (h0 : 0 ≤ f) (h8 : f ≤ 8) (X : Nat → Int) {n i : Nat} (hi : i < n) : evL f (X i) (derL f (vanL f X n)) = byF f X i n := by
  obtain ⟨m, rfl⟩ : ∃ m, n = m + 1 := ⟨n - 1, by omega⟩
  rw [vanL_out h0 h8 X i m (by omega), der_at h0 h8, vanL_ev h0 h8]
  have h1 := byF_hi f X i (m + 1) hi
  have hb := byF_bd h0 h8 X i (m + 1)
  rw [Int.emod_eq_of_lt hb.1 hb.2] at h1
  rw [h1]
  rfl
theorem invF_pow {f x : Int} (h : x % P f ≠ 0) : invF f x = mPower f x (-1) := by
  unfold invF RS
  rw [if_neg h]
theorem inv_van {f : Int} (h0 : 0 ≤ f) (h8 : f ≤ 8) {X : Nat → Int} {n i : Nat} (hd : DistinctS f X n) (hi : i < n) : invF f (evL f (X i) (derL f (vanL f X n))) = mPower f (byF f X i n) (-1) := by
  rw [der_van h0 h8 X hi, invF_pow (byF_ne h0 h8 hd hi)]
/-- A multiple of b changes no value where b vanishes. -/
theorem evL_rem {f x : Int} (h0 : 0 ≤ f) (h8 : f ≤ 8) {a b : List Int} (ha : Pol f a) (hb : Pol f b) (hz : b.length ≠ 0) (hx : evL f x b = 0) : evL f x (remL f a b) = evL f x a := by
  have hd := div_is h0 h8 ha hb hz
  have h1 := div_back h0 h8 ha hd
  have h2 : evL f x (addL f (mulL f (quoL f a b) b) (remL f a b)) = evL f x a := by rw [h1]
  rw [evL_add, evL_mul, hx, Int.mul_zero] at h2
  rw [← h2]
  have e : RS 0 (P f) = 0 := Int.zero_emod _
  rw [e, Int.zero_add]
  unfold evL RS
  rw [emm]
theorem van_at {f : Int} (h0 : 0 ≤ f) (h8 : f ≤ 8) (X : Nat → Int) {n i : Nat} (hi : i < n) : evL f (X i) (vanL f X n) = 0 := by
  rw [vanL_ev h0 h8, pdZ_zero hi rfl]
  exact Int.zero_emod _
theorem remL_pol {f : Int} (h0 : 0 ≤ f) (h8 : f ≤ 8) {a b : List Int} (ha : Pol f a) (hb : Pol f b) (hz : b.length ≠ 0) : Pol f (remL f a b) := (remL_is h0 h8 ha hb hz).1
/-- The values of a polynomial at n points. -/
def valsL (f : Int) (X : Nat → Int) (a : List Int) (n : Nat) : List Int := tab n fun i => evL f (X i) a
theorem valsL_len (f : Int) (X : Nat → Int) (a : List Int) (n : Nat) : (valsL f X a n).length = n := tab_len _ _
theorem lf_valsL {f : Int} {X : Nat → Int} {a : List Int} {n i : Nat} (h : i < n) : lf (valsL f X a n) i = evL f (X i) a := by unfold valsL; rw [lf_tab, if_pos h]
theorem valsL_rem {f : Int} (h0 : 0 ≤ f) (h8 : f ≤ 8) (X : Nat → Int) {a : List Int} (ha : Pol f a) {n m : Nat} (hm : m ≤ n) : valsL f X (remL f a (vanL f X n)) m = valsL f X a m :=
  tab_congr fun j hj => evL_rem h0 h8 ha (vanL_pol h0 h8 X n) (by rw [vanL_len h0 h8]; omega) (van_at h0 h8 X (by omega))
theorem valsL_part {f : Int} (h0 : 0 ≤ f) (h8 : f ≤ 8) (X : Nat → Int) {a : List Int} (ha : Pol f a) {m n : Nat} : valsL f (fun j => X (m + j)) (remL f a (vanL f X (m + n))) n = valsL f (fun j => X (m + j)) a n :=
  tab_congr fun j hj => evL_rem (x := X (m + j)) h0 h8 ha (vanL_pol h0 h8 X _) (by rw [vanL_len h0 h8]; omega) (van_at h0 h8 X (by omega))
/-- The rest at a leaf is the value. -/
theorem leaf_val {f : Int} (h0 : 0 ≤ f) (h8 : f ≤ 8) (X : Nat → Int) {a : List Int} (ha : Pol f a) : (remL f a (vanL f X 1)).length ≤ 1 ∧ padL (remL f a (vanL f X 1)) 1 = valsL f X a 1 := by
  have hl : (vanL f X 1).length = 2 := vanL_len h0 h8 X 1
  have h1 : (remL f a (vanL f X 1)).length < 2 := by have := remL_len (f := f) (a := a) (b := vanL f X 1) (by omega); omega
  refine ⟨by omega, list_ext (by rw [padL_len, valsL_len]) fun j hj => ?_⟩
  rw [padL_len] at hj
  obtain rfl : j = 0 := by omega
  rw [lf_padL _ (by omega), ← valsL_rem h0 h8 X ha (Nat.le_refl 1), lf_valsL (by omega), evL_n (n := 1) (by omega)]
  have hb := (remL_pol h0 h8 ha (vanL_pol h0 h8 X 1) (by omega)).1 0
  obtain ⟨v, hv⟩ : ∃ v, lf (remL f a (vanL f X 1)) 0 = v := ⟨_, rfl⟩
  rw [hv] at hb ⊢
  have e : evN (X 0) (lf (remL f a (vanL f X 1))) 1 = v := by
    show 0 + lf (remL f a (vanL f X 1)) 0 * X 0 ^ 0 = v
    rw [hv, Int.pow_zero, Int.mul_one, Int.zero_add]
  rw [e]
  exact (Int.emod_eq_of_lt hb.1 hb.2).symm
/-- The sum of the shares, each times the product over the other points. -/
def CombAt (f : Int) (X s : Nat → Int) (n : Nat) (c : List Int) : Prop := Pol f c ∧ c.length ≤ n ∧ ∀ j, j < n → evL f (X j) c = RS (s j * pdZ (X j) (othS X j) (n - 1)) (P f)
theorem comb_leaf {f : Int} (h0 : 0 ≤ f) (h8 : f ≤ 8) (X s : Nat → Int) (hs : 0 ≤ s 0 ∧ s 0 < P f) : CombAt f X s 1 (cutL 1 fun _ => s 0) := by
  refine ⟨Pol.cut (P_pos h0 h8) fun _ _ => hs, cutL_le _ _, fun j hj => ?_⟩
  obtain rfl : j = 0 := by omega
  rw [evL_one]
  show _ = RS (s 0 * 1) (P f)
  rw [Int.mul_one]
theorem comb_node {f : Int} (h0 : 0 ≤ f) (h8 : f ≤ 8) {X s : Nat → Int} {m k : Nat} (m1 : 1 ≤ m) (k1 : 1 ≤ k) {l r : List Int} (hl : CombAt f X s m l) (hr : CombAt f (fun j => X (m + j)) (fun j => s (m + j)) k r) :
    CombAt f X s (m + k) (addL f (mulL f l (vanL f (fun j => X (m + j)) k)) (mulL f (vanL f X m) r)) := by
  have v1 := vanL_len h0 h8 X m
  have v2 := vanL_len h0 h8 (fun j => X (m + j)) k
  have a1 := mulL_le f l (vanL f (fun j => X (m + j)) k)
  have a2 := mulL_le f (vanL f X m) r
  have a3 := addL_le f (mulL f l (vanL f (fun j => X (m + j)) k)) (mulL f (vanL f X m) r)
  have b1 := hl.2.1
  have b2 := hr.2.1
  refine ⟨pol_addL h0 h8 _ _, by omega, fun j hj => ?_⟩
  rw [evL_add, evL_mul, evL_mul]
  by_cases hjm : j < m
  · rw [hl.2.2 j hjm, van_at h0 h8 X hjm, Int.zero_mul, vanL_ev h0 h8]
    have e : pdZ (X j) (othS X j) (m + k - 1) = pdZ (X j) (othS X j) (m - 1) * pdZ (X j) (fun j => X (m + j)) k := by
      rw [show m + k - 1 = (m - 1) + k by omega, pdZ_add]
      congr 1
      refine pdZ_congr fun i _ => ?_
      show othS X j (m - 1 + i) = X (m + i)
      unfold othS
      rw [if_neg (by omega), show m - 1 + i + 1 = m + i by omega]
    rw [e]
    unfold RS
    rw [Int.zero_emod, Int.add_zero, emm, ← Int.mul_emod, Int.mul_assoc]
  · obtain ⟨t, rfl⟩ : ∃ t, j = m + t := ⟨j - m, by omega⟩
    have ht : t < k := by omega
    have hz : evL f (X (m + t)) (vanL f (fun j => X (m + j)) k) = 0 := van_at h0 h8 (fun j => X (m + j)) ht
    have hv : evL f (X (m + t)) r = RS (s (m + t) * pdZ (X (m + t)) (othS (fun j => X (m + j)) t) (k - 1)) (P f) := hr.2.2 t ht
    rw [hz, hv, Int.mul_zero, vanL_ev h0 h8]
    have e : pdZ (X (m + t)) (othS X (m + t)) (m + k - 1) = pdZ (X (m + t)) X m * pdZ (X (m + t)) (othS (fun j => X (m + j)) t) (k - 1) := by
      rw [show m + k - 1 = m + (k - 1) by omega, pdZ_add]
      congr 1
      · exact pdZ_congr fun i hi => if_pos (by omega)
      · refine pdZ_congr fun i _ => ?_
        show othS X (m + t) (m + i) = othS (fun j => X (m + j)) t i
        unfold othS
        by_cases h : i < t
        · rw [if_pos h, if_pos (by omega)]
        · rw [if_neg h, if_neg (by omega)]; rfl
    rw [e]
    unfold RS
    rw [Int.zero_emod, Int.zero_add, emm, ← Int.mul_emod]
    congr 1
    rw [Int.mul_left_comm]
/-- With the weights in the shares it is the polynomial through the points. -/
theorem comb_inter {f : Int} (h0 : 0 ≤ f) (h8 : f ≤ 8) {X Y : Nat → Int} {n : Nat} (hd : DistinctS f X n) (hY : ∀ j, j < n → 0 ≤ Y j ∧ Y j < P f) {c : List Int} (h : CombAt f X (fun j => RS (Y j * mPower f (byF f X j n) (-1)) (P f)) n c) : c = interL f X Y n := by
  refine (interL_eq h0 h8 hd ⟨h.1, h.2.1, fun i hi => ?_⟩).symm
  rw [h.2.2 i hi]
  have h1 := byF_hi f X i n hi
  have h2 := inv_mul h0 h8 (byF_ne h0 h8 hd hi)
  obtain ⟨V, hV⟩ : ∃ V, mPower f (byF f X i n) (-1) = V := ⟨_, rfl⟩
  show RS (RS (Y i * mPower f (byF f X i n) (-1)) (P f) * pdZ (X i) (othS X i) (n - 1)) (P f) = Y i
  rw [hV] at h2 ⊢
  unfold RS
  have h3 : (Y i * V % P f * pdZ (X i) (othS X i) (n - 1)) % P f = (Y i * V * byF f X i n) % P f := emod_mul_congr (emm _ _) h1.symm
  have h4 : (Y i * V * byF f X i n) % P f = (Y i * 1) % P f := by rw [Int.mul_assoc]; exact emod_mul_congr rfl h2
  rw [h3, h4, Int.mul_one]
  exact Int.emod_eq_of_lt (hY i hi).1 (hY i hi).2
end Go.Proofs.YtangofjpnhhfeabDoor
namespace Go.Proofs.YtangofjpnhhfeabDoor
theorem addL_gt {f : Int} {a b : List Int} (hb : Pol f b) (h : a.length < b.length) : (addL f a b).length = b.length := by
  unfold addL
  rw [cutL_len, Nat.max_eq_right (Nat.le_of_lt h)]
  refine cutN_full (.inr ?_)
  have ht := hb.2
  have hbd := hb.1 (b.length - 1)
  rw [lf_out a (by omega), Int.zero_add]
  unfold RS
  rw [Int.emod_eq_of_lt hbd.1 hbd.2]
  exact ht.resolve_left (by omega)
theorem scaleL_neg_len {f : Int} {b : List Int} (hb : Pol f b) : (scaleL f b (-1)).length = b.length := by
  unfold scaleL
  rw [cutL_len]
  by_cases hz : b.length = 0
  · rw [hz]; rfl
  refine cutN_full (.inr ?_)
  have ht := hb.2.resolve_left hz
  have hbd := hb.1 (b.length - 1)
  unfold RS
  intro e
  have h1 := Int.dvd_of_emod_eq_zero e
  have h2 : P f ∣ lf b (b.length - 1) := by
    rw [Int.mul_neg, Int.mul_one] at h1
    exact (Int.dvd_neg).1 h1
  have := Int.le_of_dvd (by omega) h2
  omega
theorem quo_lenB {f : Int} (h0 : 0 ≤ f) (h8 : f ≤ 8) {a b q r : List Int} (ha : Pol f a) (hb : Pol f b) (hle : b.length ≤ a.length) (h : DivP f a b q r) : q.length + b.length = a.length + 1 := by
  have h1 := div_len h0 h8 hb h
  have hr := h.2.2.1
  by_cases hlt : a.length + 1 ≤ q.length + b.length
  · omega
  · exfalso
    have ht := top_nz h0 h8 ha (by omega)
    rw [h.2.2.2 (a.length - 1), lf_out r (by omega), cv_out (fun j h => lf_out q h) (fun j h => lf_out b h) (by omega)] at ht
    simp at ht
/-- The state of the divisions: two remainders and their factors. -/
def EeaAt (f : Int) (X Y : Nat → Int) (n b : Nat) (r0 r1 v0 v1 : List Int) : Prop :=
  (Pol f r0 ∧ Pol f r1 ∧ Pol f v0 ∧ Pol f v1) ∧ (r1.length < r0.length ∧ v0.length < v1.length ∧ v1.length + r0.length = n + 2 ∧ b ≤ 2 * (r0.length - 1)) ∧ (∀ i, i < n → evL f (X i) r0 = RS (evL f (X i) v0 * Y i) (P f)) ∧ ∀ i, i < n → evL f (X i) r1 = RS (evL f (X i) v1 * Y i) (P f)
theorem evL_one1 {f x : Int} (h0 : 0 ≤ f) (h8 : f ≤ 8) : evL f x [1] = 1 := by
  have hp := P_bd h0 h8
  have e : evN x (lf [1]) 1 = 1 := by
    show 0 + (1 : Int) * x ^ 0 = 1
    rw [Int.pow_zero]; rfl
  show RS (evN x (lf [1]) 1) (P f) = 1
  rw [e]
  exact Int.emod_eq_of_lt (by omega) (by omega)
theorem evL_nil (f x : Int) : evL f x [] = 0 := by simp [evL, evN, sumN, RS]
theorem EeaAt.start {f : Int} (h0 : 0 ≤ f) (h8 : f ≤ 8) {X Y : Nat → Int} {n b : Nat} {c : List Int} (hb : b ≤ 2 * n) (hY : ∀ j, j < n → 0 ≤ Y j ∧ Y j < P f) (h : QInter f X Y n c) : EeaAt f X Y n b (vanL f X n) c [] [1] := by
  have hl := vanL_len h0 h8 X n
  have h1 := h.2.1
  refine ⟨⟨vanL_pol h0 h8 X n, h.1, Pol.nil (P_pos h0 h8), pol_oneL h0 h8⟩, ⟨by omega, by simp, by rw [hl]; simp; omega, by omega⟩, fun i hi => ?_, fun i hi => ?_⟩
  · rw [van_at h0 h8 X hi, evL_nil, Int.zero_mul]
    exact (Int.zero_emod _).symm
  · rw [h.2.2 i hi, evL_one1 h0 h8, Int.one_mul]
    exact (Int.emod_eq_of_lt (hY i hi).1 (hY i hi).2).symm
theorem EeaAt.step {f : Int} (h0 : 0 ≤ f) (h8 : f ≤ 8) {X Y : Nat → Int} {n b : Nat} {r0 r1 v0 v1 q r : List Int} (h : EeaAt f X Y n b r0 r1 v0 v1) (_hz : r1.length ≠ 0) (hb : b ≤ 2 * (r1.length - 1)) (hd : DivP f r0 r1 q r) : EeaAt f X Y n b r1 r v1 (addL f v0 (scaleL f (mulL f q v1) (-1))) := by
  obtain ⟨⟨p1, p2, p3, p4⟩, ⟨l1, l2, l3, l4⟩, e1, e2⟩ := h
  have hq := quo_lenB h0 h8 p1 p2 (Nat.le_of_lt l1) hd
  have hm := mulL_len h0 h8 hd.1 p4 (by omega) (by omega)
  have hs := scaleL_neg_len (pol_mulL h0 h8 q v1)
  have ha := addL_gt (a := v0) (pol_scaleL h0 h8 (mulL f q v1) (-1)) (by omega)
  refine ⟨⟨p2, hd.2.1, p4, pol_addL h0 h8 _ _⟩, ⟨hd.2.2.1, by omega, by omega, hb⟩, e2, fun i hi => ?_⟩
  have h1 : evL f (X i) (addL f (mulL f q r1) r) = evL f (X i) r0 := by rw [div_back h0 h8 p1 hd]
  rw [evL_add, evL_mul, e1 i hi, e2 i hi] at h1
  rw [evL_add, evL_scale, evL_mul]
  have hb2 : 0 ≤ evL f (X i) r ∧ evL f (X i) r < P f := RS_bd (P_pos h0 h8)
  obtain ⟨R, hR⟩ : ∃ R, evL f (X i) r = R := ⟨_, rfl⟩
  obtain ⟨Q, hQ⟩ : ∃ Q, evL f (X i) q = Q := ⟨_, rfl⟩
  obtain ⟨U, hU⟩ : ∃ U, evL f (X i) v0 = U := ⟨_, rfl⟩
  obtain ⟨V, hV⟩ : ∃ V, evL f (X i) v1 = V := ⟨_, rfl⟩
  rw [hR] at hb2
  rw [hR, hQ, hU, hV] at h1
  rw [hR, hQ, hU, hV]
  obtain ⟨y, hy⟩ : ∃ y, Y i = y := ⟨_, rfl⟩
  rw [hy] at h1 ⊢
  unfold RS at h1 ⊢
  have k1 : (Q * (V * y % P f) % P f + R) % P f = (Q * (V * y) + R) % P f := emod_add_congr (by rw [emm]; exact emod_mul_congr rfl (emm _ _)) rfl
  rw [k1] at h1
  have k2 : ((U + Q * V % P f * -1 % P f) % P f * y) % P f = (U * y - Q * (V * y)) % P f := by
    have k3 : ((U + Q * V % P f * -1 % P f) % P f * y) % P f = ((U + Q * V * -1) * y) % P f := by
      refine emod_mul_congr ?_ rfl
      rw [emm]
      refine emod_add_congr rfl ?_
      rw [emm]
      exact emod_mul_congr (emm _ _) rfl
    rw [k3, Int.add_mul, Int.mul_neg, Int.mul_one, Int.neg_mul, Int.mul_assoc]
    rfl
  rw [k2]
  have k4 : R % P f = (U * y - Q * (V * y)) % P f := by
    have k5 : (Q * (V * y) + R - Q * (V * y)) % P f = (U * y - Q * (V * y)) % P f := emod_sub_congr h1 rfl
    rw [← k5]
    congr 1
    omega
  rw [← k4]
  exact (Int.emod_eq_of_lt hb2.1 hb2.2).symm
theorem msg_pol {f : Int} {m : List Int} {k : Nat} (h0 : 0 ≤ f) (h8 : f ≤ 8) (hm : m.length = k) (he : ElsOk f m) : Pol f (cutL k (lf m)) := Pol.cut (P_pos h0 h8) fun j hj => he j (by rw [hm]; exact hj)
theorem lf_cut_k {m : List Int} {k : Nat} (hm : m.length = k) : lf (cutL k (lf m)) = lf m := by
  subst hm
  exact lf_cut_self m
theorem evL_msg {f x : Int} {m : List Int} {k : Nat} (hm : m.length = k) : evL f x (cutL k (lf m)) = RS (evN x (lf m) m.length) (P f) := by
  rw [evL_n (cutL_le k (lf m)), lf_cut_k hm, hm]
/-- The values of a message's polynomial are its word. -/
theorem vals_enc {f : Int} {xs m : List Int} {k : Nat} (hm : m.length = k) : valsL f (lf xs) (cutL k (lf m)) xs.length = encL f xs m :=
  tab_congr fun _ _ => evL_msg hm
/-- Where a message is near, the remainder is its multiple by the factor. -/
theorem EeaAt.found {f : Int} {xs ys : List Int} {k : Nat} (hp : PtsOk f xs) (hy : ys.length = xs.length) (_k1 : 1 ≤ k) (hk : k ≤ xs.length) {r0 r1 v0 v1 m : List Int} (h : EeaAt f (lf xs) (lf ys) xs.length (xs.length + k) r0 r1 v0 v1) (hend : 2 * (r1.length - 1) < xs.length + k) (hm : QDec f xs ys k m) : r1 = mulL f v1 (cutL k (lf m)) := by
  have h0 := hp.1.1
  have h8 := hp.1.2
  obtain ⟨⟨p1, p2, p3, p4⟩, ⟨l1, l2, l3, l4⟩, e1, e2⟩ := h
  have d := hm.2.2
  rw [difN_same (by rw [encL_len, hy]), encL_len] at d
  have hnot := cntN_not (fun j => lf (encL f xs m) j != lf ys j) xs.length
  obtain ⟨s, s1, s2, _, _⟩ := sel_idx (fun j => !(lf (encL f xs m) j != lf ys j)) xs.length
  obtain ⟨N, hN⟩ : ∃ N, cntN (fun j => !(lf (encL f xs m) j != lf ys j)) xs.length = N := ⟨_, rfl⟩
  rw [hN] at hnot s1 s2
  have hd : DistinctS f (fun j => lf xs (s j)) N := distinct_of (fun j hj => hp.2.2.1 (s j) (s1 j (by omega)).1) fun i j hij hj => by
    have h1 := s2 i j hij (by omega)
    have h2 := (s1 j (by omega)).1
    exact hp.2.2.2 (s i) (s j) h1 h2
  have lm := cutL_le k (lf m)
  have lp := mulL_le f v1 (cutL k (lf m))
  refine through_unique h0 h8 hd p2 (pol_mulL h0 h8 _ _) (by omega) (by omega) fun i hi => ?_
  have h1 := s1 i hi
  have h3 : lf (encL f xs m) (s i) = lf ys (s i) := by
    have := h1.2
    simp only [Bool.not_eq_true', bne_eq_false_iff_eq] at this
    exact this
  rw [encL_at h1.1] at h3
  show evL f (lf xs (s i)) r1 = evL f (lf xs (s i)) (mulL f v1 (cutL k (lf m)))
  rw [e2 (s i) h1.1, evL_mul, evL_msg hm.1, h3]
theorem mul_div {f : Int} (h0 : 0 ≤ f) (h8 : f ≤ 8) {v c : List Int} (hc : Pol f c) (hz : v.length ≠ 0) : DivP f (mulL f v c) v c [] := by
  refine ⟨hc, Pol.nil (P_pos h0 h8), by simp; omega, fun j => ?_⟩
  rw [lf_mulL, emm, cv_comm, lf_out [] (Nat.zero_le _), Int.add_zero]
/-- The quotient, cut and padded, is the message. -/
theorem EeaAt.message {f : Int} {xs ys : List Int} {k : Nat} (hp : PtsOk f xs) (hy : ys.length = xs.length) (k1 : 1 ≤ k) (hk : k ≤ xs.length) {r0 r1 v0 v1 m q r : List Int} (h : EeaAt f (lf xs) (lf ys) xs.length (xs.length + k) r0 r1 v0 v1) (hend : 2 * (r1.length - 1) < xs.length + k) (hm : QDec f xs ys k m) (hd : DivP f r1 v1 q r) : padL q k = m := by
  have h0 := hp.1.1
  have h8 := hp.1.2
  have e := h.found hp hy k1 hk hend hm
  have hv := h.2.1.2.1
  rw [e] at hd
  have hq := (DivP.unique h0 h8 h.1.2.2.2 hd (mul_div h0 h8 (msg_pol h0 h8 hm.1 hm.2.1) (by omega))).1
  rw [hq]
  refine list_ext (by rw [padL_len, hm.1]) fun j hj => ?_
  rw [lf_padL _ (cutL_le k (lf m)), lf_cut_k hm.1]
/-- The places where two lists differ. -/
def dfL (a b : List Int) : List Int := selL (difP a b) (fun i => (i : Int)) (max a.length b.length)
theorem dfL_len (a b : List Int) : (dfL a b).length = difN a b := selL_len _ _ _
theorem difP_comm (a b : List Int) : difP a b = difP b a := funext fun j => by
  unfold difP
  rw [Bool.or_comm (decide (a.length ≤ j)), bne_comm]
theorem dfL_comm (a b : List Int) : dfL a b = dfL b a := by unfold dfL; rw [difP_comm, Nat.max_comm]
theorem difN_comm (a b : List Int) : difN a b = difN b a := by unfold difN; rw [difP_comm, Nat.max_comm]
theorem dfL_enc {f : Int} {xs ys m : List Int} (hy : ys.length = xs.length) : dfL ys (encL f xs m) = selL (fun i => lf (encL f xs m) i != lf ys i) (fun i => (i : Int)) xs.length := by
  unfold dfL
  rw [encL_len, hy, Nat.max_self]
  refine selL_congr _ fun i hi => ?_
  unfold difP
  rw [encL_len, hy, bne_comm]
  simp [show ¬ xs.length ≤ i by omega]
theorem padL_els {f : Int} {q : List Int} {k : Nat} (hq : Pol f q) : ElsOk f (padL q k) := fun j hj => by
  rw [padL_len] at hj
  unfold padL
  rw [lf_tab, if_pos hj]
  exact hq.1 j
/-- What the divisions find: the message, or none that is near. -/
theorem EeaAt.answer {f : Int} {xs ys : List Int} {k : Nat} (hp : PtsOk f xs) (hy : ys.length = xs.length) (k1 : 1 ≤ k) (hk : k ≤ xs.length) {r0 r1 v0 v1 q r : List Int} (h : EeaAt f (lf xs) (lf ys) xs.length (xs.length + k) r0 r1 v0 v1) (hend : 2 * (r1.length - 1) < xs.length + k) (hd : DivP f r1 v1 q r) :
    (difN ys (encL f xs (padL q k)) ≤ (xs.length - k) / 2 → QDec f xs ys k (padL q k) ∧ decL f xs ys k = padL q k ∧ dfL ys (encL f xs (padL q k)) = blameL f xs ys k) ∧ (¬ difN ys (encL f xs (padL q k)) ≤ (xs.length - k) / 2 → ¬ ∃ m, QDec f xs ys k m) := by
  refine ⟨fun hn => ?_, fun hn => ?_⟩
  · have hq : QDec f xs ys k (padL q k) := ⟨padL_len _ _, padL_els hd.1, by rw [difN_comm]; exact hn⟩
    have he := decL_eq hp hy hk hq
    refine ⟨hq, he, ?_⟩
    rw [dfL_enc hy]
    unfold blameL
    rw [he]
  · rintro ⟨m, hm⟩
    have e := h.message hp hy k1 hk hend hm hd
    rw [e] at hn
    have := hm.2.2
    rw [difN_comm] at this
    exact hn this
end Go.Proofs.YtangofjpnhhfeabDoor
namespace Go.Proofs.YtangofjpnhhfeabDoor
open Go.RowKit
theorem own_nil0 (w : World) (F : Nat → Int) : w.ownsRow w.heap.size 3 1 (.slice none 0 0) 0 (xsF F 0) := ⟨rfl, .inl ⟨rfl, rfl⟩⟩
theorem difP_in {xs ys : List Int} {i : Nat} (h : i < xs.length) (h2 : i < ys.length) : difP xs ys i = (lf xs i != lf ys i) := by
  unfold difP
  simp [show ¬ xs.length ≤ i by omega, show ¬ ys.length ≤ i by omega]
theorem difP_out {xs ys : List Int} {i : Nat} (h2 : ys.length ≤ i) : difP xs ys i = true := by
  unfold difP
  simp [h2]
set_option maxRecDepth 100000 in
set_option maxHeartbeats 3200000 in
theorem differing_ge (b off cap : Nat) (b2 off2 : Nat) (xs ys : List Int) (cap2 : Nat) (w : World) (n1 : 1 ≤ xs.length) (hle : ys.length ≤ xs.length) (hn : xs.length ≤ 4096) (hlt : b < w.heap.size) (hc : ∀ j, j < xs.length → w.cell? ⟨b, off + j, none⟩ = some (.int .i64 (lf xs j))) (hlt2 : b2 < w.heap.size) (hc2 : ∀ j, j < ys.length → w.cell? ⟨b2, off2 + j, none⟩ = some (.int .i64 (lf ys j))) :
    Calls Tryd.prog 72 #[.slice (some ⟨b, off, none⟩) xs.length cap, .slice (some ⟨b2, off2, none⟩) ys.length cap2] w (OwnsL w (dfL xs ys)) := by
  have HIN : Hid (∀ i, i < xs.length → i < ys.length → difP xs ys i = (lf xs i != lf ys i)) := Lib.hid fun i h h2 => difP_in h h2
  have HOUT : Hid (∀ i, ys.length ≤ i → difP xs ys i = true) := Lib.hid fun i h => difP_out h
  have HF : Hid (∀ v W, W.ownsRow w.heap.size 3 1 v (cntN (difP xs ys) xs.length) (xsF (lf (selL (difP xs ys) (fun i => (i : Int)) xs.length)) (cntN (difP xs ys) xs.length)) → Below w.heap.size w W → OwnsL w (dfL xs ys) (.returned v) W) := Lib.hid fun v W ho hb => by
    have e : dfL xs ys = selL (difP xs ys) (fun i => (i : Int)) xs.length := by unfold dfL; rw [Nat.max_eq_left (by first | omega | exact Nat.zero_le _)]
    rw [e]
    exact owns_to (w := w) ho (selL_len _ _ _).symm (fun j _ => rfl) hb
  have HX := Lib.hid (fun i h => @sel_yes (difP xs ys) (fun i => (i : Int)) i h)
  have HXN := Lib.hid (fun i h => @sel_no (difP xs ys) (fun i => (i : Int)) i h)
  have HCL := Lib.hid (fun i => cntN_le (difP xs ys) i)
  have HC := Lib.hid hc
  have HB : Hid (∀ i, i < ys.length → w.cell? ⟨b2, off2 + i, none⟩ = some (.int .i64 (lf ys i))) := Lib.hid hc2
  have OE := Lib.hid (own_nil0 w (lf (selL (difP xs ys) (fun i => (i : Int)) 0)))
  obtain ⟨i0, hi, hz0, hz1, hz2⟩ := info_parts info3
  have HI := Lib.hid hi
  have HZ0 := Lib.hid hz0
  have HZ1 := Lib.hid hz1
  have HZ2 := Lib.hid hz2
  clear hi hz0 hz1 hz2 hc hc2
  generalize difP xs ys = D at *
  generalize dfL xs ys = R at *
  generalize lf xs = X at *
  generalize lf ys = Y at *
  generalize xs.length = n at *
  generalize ys.length = m at *
  have hd0 : decide ((n : Int) < m) = false := decide_eq_false (by omega)
  have hd0n : decide (n < m) = false := decide_eq_false (by omega)
  go_enter Tryd.func72, Tryd.ntmps72
  go_wp2_with fail
  (try rw [hd0])
  (try rw [hd0n])
  go_loopw [5, 17] (fun v iv wr => ∃ i : Nat, iv = .int .i64 i ∧ i ≤ n ∧ wr.ownsRow w.heap.size 3 1 v (cntN D i) (xsF (lf (selL D (fun i => (i : Int)) i)) (cntN D i)) ∧ Below w.heap.size w wr) (fun _ iv _ => n - (intOf iv).toNat)
  case atStart => exact ⟨0, rfl, Nat.zero_le _, OE.out, Below.refl _ _⟩
  case round =>
    clear OE
    obtain ⟨i, rfl, hin, hown, hnx⟩ := hrel
    have hcl := HCL.out i
    have hsz := hnx.size
    by_cases h1 : i < n
    · have hd1 : decide ((i : Int) < n) = true := decide_eq_true (by omega)
      have c1 : wr.cell? ⟨b, off + i, none⟩ = some (.int .i64 (X i)) := (hnx.cell (p := ⟨b, off + i, none⟩) hlt).trans (HC.out i h1)
      have hi0 : (0 : Int) ≤ (i : Int) := by omega
      have hi2 : (i : Int) < n := by omega
      cases hB : D i
      · have h3 : i < m := by
          rcases Nat.lt_or_ge i m with h | h
          · exact h
          · rw [HOUT.out i h] at hB; cases hB
        have c2 := HB.out i h3
        have c2 : wr.cell? ⟨b2, off2 + i, none⟩ = some (.int .i64 (Y i)) := (hnx.cell (p := ⟨b2, off2 + i, none⟩) hlt2).trans c2
        have hd3 : decide ((m : Int) ≤ i) = false := decide_eq_false (by omega)
        have hi3 : (i : Int) < m := by omega
        have hbne : (X i != Y i) = false := by rw [← HIN.out i h1 h3]; exact hB
        have e1 := HXN.out i hB
        have HV : Hid (wr.ownsRow w.heap.size 3 1 _ (cntN D (i + 1)) (xsF (lf (selL D (fun i => (i : Int)) (i + 1))) (cntN D (i + 1)))) := Lib.hid (by rw [e1.1, e1.2]; exact hown)
        have HNX := Lib.hid hnx
        clear hown e1 hnx HB
        go_wp2
        go_roundw
        case rel => exact ⟨i + 1, by go_num, by omega, HV.out, HNX.out⟩
        case measure => simp [intOf]; omega
      · have e1 := Lib.hid (HX.out i hB)
        have hge := own_ge hown
        by_cases h3 : i < m
        · have c2 := HB.out i h3
          have c2 : wr.cell? ⟨b2, off2 + i, none⟩ = some (.int .i64 (Y i)) := (hnx.cell (p := ⟨b2, off2 + i, none⟩) hlt2).trans c2
          have hd3 : decide ((m : Int) ≤ i) = false := decide_eq_false (by omega)
          have hi3 : (i : Int) < m := by omega
          have hbne : (X i != Y i) = true := by rw [← HIN.out i h1 h3]; exact hB
          go_wp2_with (at_builtin; refine wpList_append_own_at _ rfl _ _ 22 rfl w.heap.size 3 i0 (.int .i64 0) 1 8 Tryd.underlying22 HI.out HZ0.out HZ1.out HZ2.out rfl (by decide) _ _ _ rfl (hown.alloc _) ⟨wr.heap.size, 0, none⟩ 1 1 [.int .i64 (i : Int)] rfl rfl ?c1 ?c2 ?c3 ?c4 ?c5 ?_)
          case c1 => exact cell_one_new _ _ _
          case c2 => intro u hu; simp at hu; subst hu; rfl
          case c3 => unfold maxLen; omega
          case c4 => omega
          case c5 => simp; omega
          intro v' w6 hown' hgrow _ hat
          have hbel : Below w.heap.size w w6 := (hnx.alloc hsz _).grown hgrow (by simp; omega) hge
          rw [e1.out.1, e1.out.2] at hown'
          clear hgrow hown hat hnx
          go_wp2
          go_roundw
          case rel => exact ⟨i + 1, by go_num, by omega, hown', hbel⟩
          case measure => simp [intOf]; omega
        · have hd3 : decide ((m : Int) ≤ i) = true := decide_eq_true (by omega)
          go_wp2_with (at_builtin; refine wpList_append_own_at _ rfl _ _ 22 rfl w.heap.size 3 i0 (.int .i64 0) 1 8 Tryd.underlying22 HI.out HZ0.out HZ1.out HZ2.out rfl (by decide) _ _ _ rfl (hown.alloc _) ⟨wr.heap.size, 0, none⟩ 1 1 [.int .i64 (i : Int)] rfl rfl ?c1 ?c2 ?c3 ?c4 ?c5 ?_)
          case c1 => exact cell_one_new _ _ _
          case c2 => intro u hu; simp at hu; subst hu; rfl
          case c3 => unfold maxLen; omega
          case c4 => omega
          case c5 => simp; omega
          intro v' w6 hown' hgrow _ hat
          have hbel : Below w.heap.size w w6 := (hnx.alloc hsz _).grown hgrow (by simp; omega) hge
          rw [e1.out.1, e1.out.2] at hown'
          clear hgrow hown hat hnx
          go_wp2
          go_roundw
          case rel => exact ⟨i + 1, by go_num, by omega, hown', hbel⟩
          case measure => simp [intOf]; omega
    · have hd1 : decide ((i : Int) < n) = false := decide_eq_false (by omega)
      obtain rfl : i = n := by omega
      have HR := Lib.hid (HF.out _ wr hown hnx)
      clear hown hnx
      go_wp2
      go_ret
      exact HR.out
set_option maxRecDepth 100000 in
set_option maxHeartbeats 3200000 in
theorem differing_lt (b off cap : Nat) (b2 off2 : Nat) (xs ys : List Int) (cap2 : Nat) (w : World) (n1 : 1 ≤ xs.length) (hlt3 : ys.length < xs.length) (hn : xs.length ≤ 4096) (hlt : b < w.heap.size) (hc : ∀ j, j < xs.length → w.cell? ⟨b, off + j, none⟩ = some (.int .i64 (lf xs j))) (hlt2 : b2 < w.heap.size) (hc2 : ∀ j, j < ys.length → w.cell? ⟨b2, off2 + j, none⟩ = some (.int .i64 (lf ys j))) :
    Calls Tryd.prog 72 #[.slice (some ⟨b2, off2, none⟩) ys.length cap2, .slice (some ⟨b, off, none⟩) xs.length cap] w (OwnsL w (dfL xs ys)) := by
  have HIN : Hid (∀ i, i < xs.length → i < ys.length → difP xs ys i = (lf xs i != lf ys i)) := Lib.hid fun i h h2 => difP_in h h2
  have HOUT : Hid (∀ i, ys.length ≤ i → difP xs ys i = true) := Lib.hid fun i h => difP_out h
  have HF : Hid (∀ v W, W.ownsRow w.heap.size 3 1 v (cntN (difP xs ys) xs.length) (xsF (lf (selL (difP xs ys) (fun i => (i : Int)) xs.length)) (cntN (difP xs ys) xs.length)) → Below w.heap.size w W → OwnsL w (dfL xs ys) (.returned v) W) := Lib.hid fun v W ho hb => by
    have e : dfL xs ys = selL (difP xs ys) (fun i => (i : Int)) xs.length := by unfold dfL; rw [Nat.max_eq_left (by first | omega | exact Nat.zero_le _)]
    rw [e]
    exact owns_to (w := w) ho (selL_len _ _ _).symm (fun j _ => rfl) hb
  have HX := Lib.hid (fun i h => @sel_yes (difP xs ys) (fun i => (i : Int)) i h)
  have HXN := Lib.hid (fun i h => @sel_no (difP xs ys) (fun i => (i : Int)) i h)
  have HCL := Lib.hid (fun i => cntN_le (difP xs ys) i)
  have HC := Lib.hid hc
  have HB : Hid (∀ i, i < ys.length → w.cell? ⟨b2, off2 + i, none⟩ = some (.int .i64 (lf ys i))) := Lib.hid hc2
  have OE := Lib.hid (own_nil0 w (lf (selL (difP xs ys) (fun i => (i : Int)) 0)))
  obtain ⟨i0, hi, hz0, hz1, hz2⟩ := info_parts info3
  have HI := Lib.hid hi
  have HZ0 := Lib.hid hz0
  have HZ1 := Lib.hid hz1
  have HZ2 := Lib.hid hz2
  clear hi hz0 hz1 hz2 hc hc2
  generalize difP xs ys = D at *
  generalize dfL xs ys = R at *
  generalize lf xs = X at *
  generalize lf ys = Y at *
  generalize xs.length = n at *
  generalize ys.length = m at *
  have hd0 : decide ((m : Int) < n) = true := decide_eq_true (by omega)
  have hle : m ≤ n := by omega
  go_enter Tryd.func72, Tryd.ntmps72
  go_wp2_with fail
  (try rw [hd0])
  (try rw [hd0n])
  go_loopw [5, 17] (fun v iv wr => ∃ i : Nat, iv = .int .i64 i ∧ i ≤ n ∧ wr.ownsRow w.heap.size 3 1 v (cntN D i) (xsF (lf (selL D (fun i => (i : Int)) i)) (cntN D i)) ∧ Below w.heap.size w wr) (fun _ iv _ => n - (intOf iv).toNat)
  case atStart => exact ⟨0, rfl, Nat.zero_le _, OE.out, Below.refl _ _⟩
  case round =>
    clear OE
    obtain ⟨i, rfl, hin, hown, hnx⟩ := hrel
    have hcl := HCL.out i
    have hsz := hnx.size
    by_cases h1 : i < n
    · have hd1 : decide ((i : Int) < n) = true := decide_eq_true (by omega)
      have c1 : wr.cell? ⟨b, off + i, none⟩ = some (.int .i64 (X i)) := (hnx.cell (p := ⟨b, off + i, none⟩) hlt).trans (HC.out i h1)
      have hi0 : (0 : Int) ≤ (i : Int) := by omega
      have hi2 : (i : Int) < n := by omega
      cases hB : D i
      · have h3 : i < m := by
          rcases Nat.lt_or_ge i m with h | h
          · exact h
          · rw [HOUT.out i h] at hB; cases hB
        have c2 := HB.out i h3
        have c2 : wr.cell? ⟨b2, off2 + i, none⟩ = some (.int .i64 (Y i)) := (hnx.cell (p := ⟨b2, off2 + i, none⟩) hlt2).trans c2
        have hd3 : decide ((m : Int) ≤ i) = false := decide_eq_false (by omega)
        have hi3 : (i : Int) < m := by omega
        have hbne : (X i != Y i) = false := by rw [← HIN.out i h1 h3]; exact hB
        have e1 := HXN.out i hB
        have HV : Hid (wr.ownsRow w.heap.size 3 1 _ (cntN D (i + 1)) (xsF (lf (selL D (fun i => (i : Int)) (i + 1))) (cntN D (i + 1)))) := Lib.hid (by rw [e1.1, e1.2]; exact hown)
        have HNX := Lib.hid hnx
        clear hown e1 hnx HB
        go_wp2
        go_roundw
        case rel => exact ⟨i + 1, by go_num, by omega, HV.out, HNX.out⟩
        case measure => simp [intOf]; omega
      · have e1 := Lib.hid (HX.out i hB)
        have hge := own_ge hown
        by_cases h3 : i < m
        · have c2 := HB.out i h3
          have c2 : wr.cell? ⟨b2, off2 + i, none⟩ = some (.int .i64 (Y i)) := (hnx.cell (p := ⟨b2, off2 + i, none⟩) hlt2).trans c2
          have hd3 : decide ((m : Int) ≤ i) = false := decide_eq_false (by omega)
          have hi3 : (i : Int) < m := by omega
          have hbne : (X i != Y i) = true := by rw [← HIN.out i h1 h3]; exact hB
          go_wp2_with (at_builtin; refine wpList_append_own_at _ rfl _ _ 22 rfl w.heap.size 3 i0 (.int .i64 0) 1 8 Tryd.underlying22 HI.out HZ0.out HZ1.out HZ2.out rfl (by decide) _ _ _ rfl (hown.alloc _) ⟨wr.heap.size, 0, none⟩ 1 1 [.int .i64 (i : Int)] rfl rfl ?c1 ?c2 ?c3 ?c4 ?c5 ?_)
          case c1 => exact cell_one_new _ _ _
          case c2 => intro u hu; simp at hu; subst hu; rfl
          case c3 => unfold maxLen; omega
          case c4 => omega
          case c5 => simp; omega
          intro v' w6 hown' hgrow _ hat
          have hbel : Below w.heap.size w w6 := (hnx.alloc hsz _).grown hgrow (by simp; omega) hge
          rw [e1.out.1, e1.out.2] at hown'
          clear hgrow hown hat hnx
          go_wp2
          go_roundw
          case rel => exact ⟨i + 1, by go_num, by omega, hown', hbel⟩
          case measure => simp [intOf]; omega
        · have hd3 : decide ((m : Int) ≤ i) = true := decide_eq_true (by omega)
          go_wp2_with (at_builtin; refine wpList_append_own_at _ rfl _ _ 22 rfl w.heap.size 3 i0 (.int .i64 0) 1 8 Tryd.underlying22 HI.out HZ0.out HZ1.out HZ2.out rfl (by decide) _ _ _ rfl (hown.alloc _) ⟨wr.heap.size, 0, none⟩ 1 1 [.int .i64 (i : Int)] rfl rfl ?c1 ?c2 ?c3 ?c4 ?c5 ?_)
          case c1 => exact cell_one_new _ _ _
          case c2 => intro u hu; simp at hu; subst hu; rfl
          case c3 => unfold maxLen; omega
          case c4 => omega
          case c5 => simp; omega
          intro v' w6 hown' hgrow _ hat
          have hbel : Below w.heap.size w w6 := (hnx.alloc hsz _).grown hgrow (by simp; omega) hge
          rw [e1.out.1, e1.out.2] at hown'
          clear hgrow hown hat hnx
          go_wp2
          go_roundw
          case rel => exact ⟨i + 1, by go_num, by omega, hown', hbel⟩
          case measure => simp [intOf]; omega
    · have hd1 : decide ((i : Int) < n) = false := decide_eq_false (by omega)
      obtain rfl : i = n := by omega
      have HR := Lib.hid (HF.out _ wr hown hnx)
      clear hown hnx
      go_wp2
      go_ret
      exact HR.out
set_option maxRecDepth 100000 in
set_option maxHeartbeats 3200000 in
theorem differing_ge0 (b off cap : Nat) (a2 : Option Addr) (xs : List Int) (cap2 : Nat) (w : World) (n1 : 1 ≤ xs.length) (hle : 0 ≤ xs.length) (hn : xs.length ≤ 4096) (hlt : b < w.heap.size) (hc : ∀ j, j < xs.length → w.cell? ⟨b, off + j, none⟩ = some (.int .i64 (lf xs j))) :
    Calls Tryd.prog 72 #[.slice (some ⟨b, off, none⟩) xs.length cap, .slice a2 0 cap2] w (OwnsL w (dfL xs [])) := by
  have HOUT : Hid (∀ i, 0 ≤ i → difP xs [] i = true) := Lib.hid fun i h => difP_out h
  have HF : Hid (∀ v W, W.ownsRow w.heap.size 3 1 v (cntN (difP xs []) xs.length) (xsF (lf (selL (difP xs []) (fun i => (i : Int)) xs.length)) (cntN (difP xs []) xs.length)) → Below w.heap.size w W → OwnsL w (dfL xs []) (.returned v) W) := Lib.hid fun v W ho hb => by
    have e : dfL xs [] = selL (difP xs []) (fun i => (i : Int)) xs.length := by unfold dfL; rw [Nat.max_eq_left (by first | omega | exact Nat.zero_le _)]
    rw [e]
    exact owns_to (w := w) ho (selL_len _ _ _).symm (fun j _ => rfl) hb
  have HX := Lib.hid (fun i h => @sel_yes (difP xs []) (fun i => (i : Int)) i h)
  have HXN := Lib.hid (fun i h => @sel_no (difP xs []) (fun i => (i : Int)) i h)
  have HCL := Lib.hid (fun i => cntN_le (difP xs []) i)
  have HC := Lib.hid hc
  have OE := Lib.hid (own_nil0 w (lf (selL (difP xs []) (fun i => (i : Int)) 0)))
  obtain ⟨i0, hi, hz0, hz1, hz2⟩ := info_parts info3
  have HI := Lib.hid hi
  have HZ0 := Lib.hid hz0
  have HZ1 := Lib.hid hz1
  have HZ2 := Lib.hid hz2
  clear hi hz0 hz1 hz2 hc
  generalize difP xs [] = D at *
  generalize dfL xs [] = R at *
  generalize lf xs = X at *
  generalize xs.length = n at *
  have hd0 : decide ((n : Int) < 0) = false := decide_eq_false (by omega)
  have hd0n : decide (n < 0) = false := decide_eq_false (by omega)
  go_enter Tryd.func72, Tryd.ntmps72
  go_wp2_with fail
  (try rw [hd0])
  (try rw [hd0n])
  go_loopw [5, 17] (fun v iv wr => ∃ i : Nat, iv = .int .i64 i ∧ i ≤ n ∧ wr.ownsRow w.heap.size 3 1 v (cntN D i) (xsF (lf (selL D (fun i => (i : Int)) i)) (cntN D i)) ∧ Below w.heap.size w wr) (fun _ iv _ => n - (intOf iv).toNat)
  case atStart => exact ⟨0, rfl, Nat.zero_le _, OE.out, Below.refl _ _⟩
  case round =>
    clear OE
    obtain ⟨i, rfl, hin, hown, hnx⟩ := hrel
    have hcl := HCL.out i
    have hsz := hnx.size
    by_cases h1 : i < n
    · have hd1 : decide ((i : Int) < n) = true := decide_eq_true (by omega)
      have c1 : wr.cell? ⟨b, off + i, none⟩ = some (.int .i64 (X i)) := (hnx.cell (p := ⟨b, off + i, none⟩) hlt).trans (HC.out i h1)
      have hi0 : (0 : Int) ≤ (i : Int) := by omega
      have hi2 : (i : Int) < n := by omega
      have hB := HOUT.out i (Nat.zero_le _)
      have e1 := Lib.hid (HX.out i hB)
      have hge := own_ge hown
      have hd3 : decide ((0 : Int) ≤ (i : Int)) = true := decide_eq_true (by omega)
      go_wp2_with (at_builtin; refine wpList_append_own_at _ rfl _ _ 22 rfl w.heap.size 3 i0 (.int .i64 0) 1 8 Tryd.underlying22 HI.out HZ0.out HZ1.out HZ2.out rfl (by decide) _ _ _ rfl (hown.alloc _) ⟨wr.heap.size, 0, none⟩ 1 1 [.int .i64 (i : Int)] rfl rfl ?c1 ?c2 ?c3 ?c4 ?c5 ?_)
      case c1 => exact cell_one_new _ _ _
      case c2 => intro u hu; simp at hu; subst hu; rfl
      case c3 => unfold maxLen; omega
      case c4 => omega
      case c5 => simp; omega
      intro v' w6 hown' hgrow _ hat
      have hbel : Below w.heap.size w w6 := (hnx.alloc hsz _).grown hgrow (by simp; omega) hge
      rw [e1.out.1, e1.out.2] at hown'
      clear hgrow hown hat hnx
      go_wp2
      go_roundw
      case rel => exact ⟨i + 1, by go_num, by omega, hown', hbel⟩
      case measure => simp [intOf]; omega
    · have hd1 : decide ((i : Int) < n) = false := decide_eq_false (by omega)
      obtain rfl : i = n := by omega
      have HR := Lib.hid (HF.out _ wr hown hnx)
      clear hown hnx
      go_wp2
      go_ret
      exact HR.out
set_option maxRecDepth 100000 in
set_option maxHeartbeats 3200000 in
theorem differing_lt0 (b off cap : Nat) (a2 : Option Addr) (xs : List Int) (cap2 : Nat) (w : World) (n1 : 1 ≤ xs.length) (hlt3 : 0 < xs.length) (hn : xs.length ≤ 4096) (hlt : b < w.heap.size) (hc : ∀ j, j < xs.length → w.cell? ⟨b, off + j, none⟩ = some (.int .i64 (lf xs j))) :
    Calls Tryd.prog 72 #[.slice a2 0 cap2, .slice (some ⟨b, off, none⟩) xs.length cap] w (OwnsL w (dfL xs [])) := by
  have HOUT : Hid (∀ i, 0 ≤ i → difP xs [] i = true) := Lib.hid fun i h => difP_out h
  have HF : Hid (∀ v W, W.ownsRow w.heap.size 3 1 v (cntN (difP xs []) xs.length) (xsF (lf (selL (difP xs []) (fun i => (i : Int)) xs.length)) (cntN (difP xs []) xs.length)) → Below w.heap.size w W → OwnsL w (dfL xs []) (.returned v) W) := Lib.hid fun v W ho hb => by
    have e : dfL xs [] = selL (difP xs []) (fun i => (i : Int)) xs.length := by unfold dfL; rw [Nat.max_eq_left (by first | omega | exact Nat.zero_le _)]
    rw [e]
    exact owns_to (w := w) ho (selL_len _ _ _).symm (fun j _ => rfl) hb
  have HX := Lib.hid (fun i h => @sel_yes (difP xs []) (fun i => (i : Int)) i h)
  have HXN := Lib.hid (fun i h => @sel_no (difP xs []) (fun i => (i : Int)) i h)
  have HCL := Lib.hid (fun i => cntN_le (difP xs []) i)
  have HC := Lib.hid hc
  have OE := Lib.hid (own_nil0 w (lf (selL (difP xs []) (fun i => (i : Int)) 0)))
  obtain ⟨i0, hi, hz0, hz1, hz2⟩ := info_parts info3
  have HI := Lib.hid hi
  have HZ0 := Lib.hid hz0
  have HZ1 := Lib.hid hz1
  have HZ2 := Lib.hid hz2
  clear hi hz0 hz1 hz2 hc
  generalize difP xs [] = D at *
  generalize dfL xs [] = R at *
  generalize lf xs = X at *
  generalize xs.length = n at *
  have hd0 : decide ((0 : Int) < n) = true := decide_eq_true (by omega)
  have hle : 0 ≤ n := by omega
  go_enter Tryd.func72, Tryd.ntmps72
  go_wp2_with fail
  (try rw [hd0])
  (try rw [hd0n])
  go_loopw [5, 17] (fun v iv wr => ∃ i : Nat, iv = .int .i64 i ∧ i ≤ n ∧ wr.ownsRow w.heap.size 3 1 v (cntN D i) (xsF (lf (selL D (fun i => (i : Int)) i)) (cntN D i)) ∧ Below w.heap.size w wr) (fun _ iv _ => n - (intOf iv).toNat)
  case atStart => exact ⟨0, rfl, Nat.zero_le _, OE.out, Below.refl _ _⟩
  case round =>
    clear OE
    obtain ⟨i, rfl, hin, hown, hnx⟩ := hrel
    have hcl := HCL.out i
    have hsz := hnx.size
    by_cases h1 : i < n
    · have hd1 : decide ((i : Int) < n) = true := decide_eq_true (by omega)
      have c1 : wr.cell? ⟨b, off + i, none⟩ = some (.int .i64 (X i)) := (hnx.cell (p := ⟨b, off + i, none⟩) hlt).trans (HC.out i h1)
      have hi0 : (0 : Int) ≤ (i : Int) := by omega
      have hi2 : (i : Int) < n := by omega
      have hB := HOUT.out i (Nat.zero_le _)
      have e1 := Lib.hid (HX.out i hB)
      have hge := own_ge hown
      have hd3 : decide ((0 : Int) ≤ (i : Int)) = true := decide_eq_true (by omega)
      go_wp2_with (at_builtin; refine wpList_append_own_at _ rfl _ _ 22 rfl w.heap.size 3 i0 (.int .i64 0) 1 8 Tryd.underlying22 HI.out HZ0.out HZ1.out HZ2.out rfl (by decide) _ _ _ rfl (hown.alloc _) ⟨wr.heap.size, 0, none⟩ 1 1 [.int .i64 (i : Int)] rfl rfl ?c1 ?c2 ?c3 ?c4 ?c5 ?_)
      case c1 => exact cell_one_new _ _ _
      case c2 => intro u hu; simp at hu; subst hu; rfl
      case c3 => unfold maxLen; omega
      case c4 => omega
      case c5 => simp; omega
      intro v' w6 hown' hgrow _ hat
      have hbel : Below w.heap.size w w6 := (hnx.alloc hsz _).grown hgrow (by simp; omega) hge
      rw [e1.out.1, e1.out.2] at hown'
      clear hgrow hown hat hnx
      go_wp2
      go_roundw
      case rel => exact ⟨i + 1, by go_num, by omega, hown', hbel⟩
      case measure => simp [intOf]; omega
    · have hd1 : decide ((i : Int) < n) = false := decide_eq_false (by omega)
      obtain rfl : i = n := by omega
      have HR := Lib.hid (HF.out _ wr hown hnx)
      clear hown hnx
      go_wp2
      go_ret
      exact HR.out
theorem differing_none (a a2 : Option Addr) (cap cap2 : Nat) (w : World) : Calls Tryd.prog 72 #[.slice a 0 cap, .slice a2 0 cap2] w fun e w' => e = .returned (.slice none 0 0) ∧ w = w' := by
  go_enter Tryd.func72, Tryd.ntmps72
  go_wp2_with fail
  refine wp_loop_rounds 1 ?_
  rw [rounds_succ]
  go_wp2
  go_ret
  exact ⟨rfl, rfl⟩
theorem differing_c (a : Option Addr) (xs : List Int) (cap : Nat) (a2 : Option Addr) (ys : List Int) (cap2 : Nat) (w : World) (hn : xs.length ≤ 4096) (hn2 : ys.length ≤ 4096) (hs : Src w a xs.length (lf xs)) (hs2 : Src w a2 ys.length (lf ys)) :
    Calls Tryd.prog 72 #[.slice a xs.length cap, .slice a2 ys.length cap2] w (OwnsL w (dfL xs ys)) := by
  by_cases hz : xs.length = 0 ∧ ys.length = 0
  · rw [hz.1, hz.2]
    refine (differing_none a a2 cap cap2 w).mono ?_
    rintro e w' ⟨rfl, rfl⟩
    have e1 : (dfL xs ys).length = 0 := by
      rw [dfL_len]
      unfold difN
      rw [hz.1, hz.2]
      rfl
    exact ⟨_, rfl, by rw [e1]; exact own_nil0 w _, Below.refl _ _⟩
  · by_cases hlt : xs.length < ys.length
    · rw [dfL_comm]
      rcases hs2 with h | ⟨b, off, rfl, h1, h2⟩
      · omega
      · rcases hs with h | ⟨b2, off2, rfl, h3, h4⟩
        · obtain rfl : xs = [] := List.length_eq_zero_iff.1 h
          have hlt : 0 < ys.length := hlt
          exact differing_lt0 b off cap2 a ys cap w (by omega) (by omega) hn2 h1 h2
        · exact differing_lt b off cap2 b2 off2 ys xs cap w (by omega) hlt hn2 h1 h2 h3 h4
    · rcases hs with h | ⟨b, off, rfl, h1, h2⟩
      · omega
      · rcases hs2 with h | ⟨b2, off2, rfl, h3, h4⟩
        · obtain rfl : ys = [] := List.length_eq_zero_iff.1 h
          exact differing_ge0 b off cap a2 xs cap2 w (by omega) (Nat.zero_le _) hn h1 h2
        · exact differing_ge b off cap b2 off2 xs ys cap2 w (by omega) (by omega) hn h1 h2 h3 h4
set_option maxRecDepth 100000 in
theorem iDiffer (a : Option Addr) (xs : List Int) (cap : Nat) (a2 : Option Addr) (ys : List Int) (cap2 : Nat) (w : World) (hn : xs.length ≤ 1048576) (hn2 : ys.length ≤ 1048576) (hs : SrcC w a xs.length cap (lf xs)) (hs2 : SrcC w a2 ys.length cap2 (lf ys)) : Calls Tryd.prog 40 #[.slice a xs.length cap, .slice a2 ys.length cap2] w (IntP w (mDiffer xs ys)) := by
  by_cases h : xs.length ≤ 4096 ∧ ys.length ≤ 4096
  · have HD := Lib.hid (differing_c a xs cap a2 ys cap2 w h.1 h.2 hs.2 hs2.2)
    have HM : Hid (mDiffer xs ys = ((dfL xs ys).length : Int)) := Lib.hid (by unfold mDiffer; rw [if_pos h, dfL_len])
    have HF : Hid (∀ e w1, OwnsL w (dfL xs ys) e w1 → ∃ a3 c3, e = .returned (.slice a3 (dfL xs ys).length c3) ∧ Below w.heap.size w w1) := Lib.hid fun e w1 h => by
      obtain ⟨v, rfl, ho, hb⟩ := h
      rcases ho.2 with ⟨rfl, h0⟩ | ⟨g, c3, _, rfl, _⟩
      · exact ⟨none, 0, by rw [h0], hb⟩
      · exact ⟨_, c3, rfl, hb⟩
    rw [HM.out]
    obtain ⟨h1, h2⟩ := h
    have hd1 : decide ((4096 : Int) < xs.length) = false := decide_eq_false (by omega)
    have hd2 : decide ((4096 : Int) < ys.length) = false := decide_eq_false (by omega)
    clear hs hs2 HM
    generalize dfL xs ys = V at *
    generalize xs.length = n at *
    generalize ys.length = m at *
    go_enter Tryd.func40, Tryd.ntmps40
    go_wp2_with fail
    all_goals (refine HD.out.mono ?_; intro e w1 h3; obtain ⟨a3, c3, rfl, hb⟩ := HF.out _ _ h3; clear h3; go_wp2; go_ret; exact ⟨rfl, hb⟩)
  · rw [show mDiffer xs ys = -1 by unfold mDiffer; rw [if_neg h]]
    clear hs hs2
    generalize xs.length = n at *
    generalize ys.length = m at *
    rcases Nat.lt_or_ge n m with h2 | h2
    · have hx : max (n : Int) m = m := by omega
      have hd2 : decide ((4096 : Int) < m) = true := decide_eq_true (by omega)
      have h3 : (n : Int) ≤ m := by omega
      have h4 : (n : Int) < m := by omega
      go_enter Tryd.func40, Tryd.ntmps40
      go_wp2
      all_goals (go_ret; exact ⟨rfl, Below.refl _ _⟩)
    · have hx : max (n : Int) m = n := by omega
      have hd2 : decide ((4096 : Int) < n) = true := decide_eq_true (by omega)
      have h3 : (m : Int) ≤ n := by omega
      have h4 : ¬ (n : Int) < m := by omega
      go_enter Tryd.func40, Tryd.ntmps40
      go_wp2
      all_goals (go_ret; exact ⟨rfl, Below.refl _ _⟩)
end Go.Proofs.YtangofjpnhhfeabDoor
