/-
  Texts of the proofs of this seat, joined (part 3).
-/
import Derived.Deep.QuietTactic
import Derived.BigQuiet
import Derived.Test.YtmgggdibbhameabDoorJ2
namespace Go.Proofs.YtmgggdibbhameabDoor
open Go.RowKit
theorem sq_start (p : Int) {A : Nat → Int} (hA : A 0 = 1) : EqN p 1 (mulS oneS oneS) A := by
  intro i hi
  obtain rfl : i = 0 := by omega
  show cv 0 oneS oneS % p = A 0 % p
  rw [cv_ipar, hA]
  rfl
/-- The coefficients of a square root so far. -/
def SqrtAt (f : Int) (A : Nat → Int) (w wr : World) (v : Value) (k : Nat) : Prop := ∃ O : Nat → Int, (∀ j, 0 ≤ O j ∧ O j < P f) ∧ (EqN (P f) k (mulS O O) A ∧ O 0 = 1) ∧ wr.ownsRow w.heap.size 3 1 v k (xsF O k) ∧ Below w.heap.size w wr
theorem sqrt_next {f : Int} (h0 : 0 ≤ f) (h8 : f ≤ 8) {A O : Nat → Int} {k : Nat} (k0 : k ≠ 0) (h : EqN (P f) k (mulS O O) A ∧ O 0 = 1) : EqN (P f) (k + 1) (mulS (more O k (RS (RS (A k - jpar O k (k - 1)) (P f) * mPower f 2 (-1)) (P f))) (more O k (RS (RS (A k - jpar O k (k - 1)) (P f) * mPower f 2 (-1)) (P f)))) A ∧ more O k (RS (RS (A k - jpar O k (k - 1)) (P f) * mPower f 2 (-1)) (P f)) 0 = 1 := by
  obtain ⟨m, rfl⟩ : ∃ m, k = m + 1 := ⟨k - 1, by omega⟩
  exact ⟨sqrt_more h0 h8 h.2 h.1, by rw [more_lo (by omega)]; exact h.2⟩
set_option maxRecDepth 100000 in
set_option maxHeartbeats 3200000 in
theorem sSqrt_some (f : Int) (b off n cap : Nat) (A : Nat → Int) (w : World) (HT : Hid (Calls Tryd.prog 35 #[.int .i64 f, .slice (some ⟨b, off, none⟩) n cap] w (SameB w true)))
    (hf : 0 ≤ f ∧ f ≤ 8) (n1 : 1 ≤ n) (hn : n ≤ 64) (hA0 : A 0 = 1) (hAb : ∀ j, 0 ≤ A j ∧ A j < P f) (hlt : b < w.heap.size) (hc : ∀ j, j < n → w.cell? ⟨b, off + j, none⟩ = some (.int .i64 (A j))) :
    Calls Tryd.prog 11 #[.int .i64 f, .slice (some ⟨b, off, none⟩) n cap] w fun e w' => ∃ v, e = .returned (.tuple #[v, .bool true]) ∧ SqrtAt f A w w' v n := by
  have HC := Lib.hid hc
  have BA : Hid (∀ o, Below w.heap.size w (w.alloc o)) := Lib.hid fun o => (Below.refl _ _).alloc (Nat.le_refl _) o
  have HMU : Hid (∀ x y w, Calls Tryd.prog 41 #[.int .i64 f, .int .i64 x, .int .i64 y] w fun e w' => e = .returned (.int .i64 (RS (x * y) (P f))) ∧ w = w') := Lib.hid fun x y w => by have := sMul f x y w; rwa [mMul, if_pos hf] at this
  have HSU : Hid (∀ x y w, Calls Tryd.prog 44 #[.int .i64 f, .int .i64 x, .int .i64 y] w fun e w' => e = .returned (.int .i64 (RS (x - y) (P f))) ∧ w = w') := Lib.hid fun x y w => by have := sSub f x y w; rwa [mSub, if_pos hf] at this
  have hp := P_bd hf.1 hf.2
  have HST : Hid (∀ (O : Nat → Int) (k : Nat), k ≠ 0 → EqN (P f) k (mulS O O) A ∧ O 0 = 1 → EqN (P f) (k + 1) (mulS (more O k (RS (RS (A k - jpar O k (k - 1)) (P f) * mPower f 2 (-1)) (P f))) (more O k (RS (RS (A k - jpar O k (k - 1)) (P f) * mPower f 2 (-1)) (P f)))) A ∧ more O k (RS (RS (A k - jpar O k (k - 1)) (P f) * mPower f 2 (-1)) (P f)) 0 = 1) := Lib.hid fun O k k0 h => sqrt_next hf.1 hf.2 k0 h
  have HAR : Hid (∀ (O : Nat → Int) (k : Nat), A k = RS (A k - jpar O k 0) (P f)) := Lib.hid fun O k => by
    show A k = RS (A k - 0) (P f)
    unfold RS
    rw [Int.sub_zero, Int.emod_eq_of_lt (hAb k).1 (hAb k).2]
  have HBD : Hid (∀ x, 0 ≤ RS x (P f) ∧ RS x (P f) < P f) := Lib.hid fun x => RS_bd (by omega)
  have HIN := Lib.hid (sInverse f 2)
  have H1 : Hid (SqrtAt f A w (w.alloc (.cells #[.int .i64 1] 3)) (.slice (some ⟨w.heap.size, 0, none⟩) 1 1) 1) := Lib.hid ⟨oneS, one_bd hf.1 hf.2, ⟨sq_start _ hA0, rfl⟩, own_one w, BA.out _⟩
  obtain ⟨i0, hi, hz0, hz1, hz2⟩ := info_parts info3
  have HI := Lib.hid hi
  have HZ0 := Lib.hid hz0
  have HZ1 := Lib.hid hz1
  have HZ2 := Lib.hid hz2
  have cA : w.cell? ⟨b, off, none⟩ = some (.int .i64 1) := by have := hc 0 (by omega); rwa [Nat.add_zero, hA0] at this
  clear hi hz0 hz1 hz2 hc hf hA0 hAb
  generalize mPower f 2 (-1) = V at *
  have n0 : (0 : Int) < (n : Int) := by omega
  go_enter Tryd.func11, Tryd.ntmps11
  go_wp2_with fail
  refine HT.out.mono ?_
  rintro e w' ⟨rfl, rfl⟩
  clear HT
  go_wp2_with fail
  refine (HIN.out _).mono ?_
  rintro e w' ⟨rfl, rfl⟩
  clear HIN
  go_wp2_with fail
  go_loopw [7, 8, 9, 10] (fun v i _ _ wr => ∃ k : Nat, i = .int .i64 k ∧ 1 ≤ k ∧ k ≤ n ∧ SqrtAt f A w wr v k) (fun _ i _ _ _ => n - (intOf i).toNat)
  case atStart => exact ⟨1, rfl, Nat.le_refl _, n1, H1.out⟩
  case round =>
    clear H1 cA
    obtain ⟨k, rfl, hk1, hk, O, hO, hinv, hown, hnx⟩ := hrel
    have HO := Lib.hid hO
    have HINV := Lib.hid hinv
    clear hO hinv
    by_cases h1 : k < n
    · have hd1 : decide ((k : Int) < (n : Int)) = true := decide_eq_true (by omega)
      have hs := hnx.size
      obtain ⟨g, capo, rfl, hg, hov⟩ := OwnV.of_owns hown (show k ≠ 0 by omega)
      have HOV := Lib.hid hov
      have HOWN := Lib.hid hown
      have H0 := Lib.hid (HAR.out O k)
      have dk : wr.cell? ⟨b, off + k, none⟩ = some (.int .i64 (A k)) := (hnx.cell (p := ⟨b, off + k, none⟩) hlt).trans (HC.out k h1)
      clear hov hown
      go_wp2_with fail
      go_loopw [9, 10] (fun s j wr2 => ∃ i : Nat, j = .int .i64 ((i + 1 : Nat) : Int) ∧ i + 1 ≤ k ∧ s = .int .i64 (RS (A k - jpar O k i) (P f)) ∧ ∃ q, wr2 = wr.drewN q) (fun _ j _ => k - (intOf j).toNat)
      case atStart => exact ⟨0, rfl, hk1, vint H0.out, 0, rfl⟩
      case round =>
        clear H0 dk
        obtain ⟨i, rfl, hik, rfl, q, rfl⟩ := hrel
        have hbq := below_drewN hnx q
        by_cases h2 : i + 1 < k
        · have hd2 : decide (((i + 1 : Nat) : Int) < k) = true := decide_eq_true (by omega)
          have hd3 : decide ((i : Int) + 1 < k) = true := decide_eq_true (by omega)
          have d1 := HOV.out.cell (show i + 1 < k by omega)
          have d2 := HOV.out.cell (show k - (i + 1) < k by omega)
          have HS := Lib.hid (jpar_rs (O := O) (k := k) (i := i) (p := P f) (d := A k))
          have q1 : IntKind.i64.wrap ((k : Int) - ((i : Int) + 1)) = (k : Int) - ((i : Int) + 1) := IntWalk.i64_in _ (by omega)
          have q2 : ((k : Int) - ((i : Int) + 1)).toNat = k - (i + 1) := by omega
          have q3 : (0 : Int) ≤ (k : Int) - ((i : Int) + 1) := by omega
          have q4 : (k : Int) - ((i : Int) + 1) < k := by omega
          have q7 : (i : Int) + 1 < k := by omega
          have q8 : (i : Int) + 1 ≤ k := by omega
          have q9 : (0 : Int) < (i : Int) + 1 := by omega
          generalize RS (A k - jpar O k i) (P f) = X at *
          have HMk : Hid (∀ p2 x y, Calls Tryd.prog 41 #[.int .i64 f, .int .i64 x, .int .i64 y] (wr.drewN (q + p2)) fun e w' => e = .returned (.int .i64 (RS (x * y) (P f))) ∧ ∃ n, w' = wr.drewN (q + n)) := Lib.hid fun p2 x y => (HMU.out x y _).mono fun _ _ h => ⟨h.1, p2, h.2.symm⟩
          have HAk : Hid (∀ p2 x y, Calls Tryd.prog 44 #[.int .i64 f, .int .i64 x, .int .i64 y] (wr.drewN (q + p2)) fun e w' => e = .returned (.int .i64 (RS (x - y) (P f))) ∧ ∃ n, w' = wr.drewN (q + n)) := Lib.hid fun p2 x y => (HSU.out x y _).mono fun _ _ h => ⟨h.1, p2, h.2.symm⟩
          go_wp2
          go_quiet ((first | (go_at_call 41; exact HMk.out _ _ _) | (go_at_call 44; exact HAk.out _ _ _)))
          go_wp2
          go_roundw
          case rel => exact ⟨i + 1, by go_num, by omega, vint HS.out, _, rfl⟩
          case measure => simp [intOf]; omega
        · have hd2 : decide (((i + 1 : Nat) : Int) < k) = false := decide_eq_false (by omega)
          have hd3 : decide ((i : Int) + 1 < k) = false := decide_eq_false (by omega)
          obtain rfl : i = k - 1 := by omega
          have HST2 := Lib.hid (HST.out O k (by omega) HINV.out)
          have hown : (wr.drewN q).ownsRow w.heap.size 3 1 (.slice (some ⟨g, 0, none⟩) k capo) k (xsF O k) := HOWN.out
          have hs2 := hbq.size
          go_wp2_with fail
          refine (HMU.out _ _ (wr.drewN q)).mono ?_
          rintro e w' ⟨rfl, rfl⟩
          have hx := HBD.out (RS (A k - jpar O k (k - 1)) (P f) * V)
          generalize RS (RS (A k - jpar O k (k - 1)) (P f) * V) (P f) = X at *
          go_wp2_with (at_builtin; refine wpList_append_own _ rfl _ _ 22 rfl w.heap.size 3 i0 (.int .i64 0) 1 8 Tryd.underlying22 HI.out HZ0.out HZ1.out HZ2.out rfl (by decide) _ _ _ rfl (hown.alloc _) ⟨(wr.drewN q).heap.size, 0, none⟩ 1 1 [.int .i64 X] rfl rfl ?e1 ?e2 ?e3 ?e4 ?e5 ?_)
          case e1 => exact cell_one_new _ _ _
          case e2 => intro u hu; simp at hu; subst hu; rfl
          case e3 => unfold maxLen; omega
          case e4 => omega
          case e5 => simp; omega
          intro v' w1 hown' hgrow _
          have hbel : Below w.heap.size w w1 := (hbq.alloc hs2 _).grown hgrow (by simp; omega) (own_ge hown)
          rw [xs_more O k X] at hown'
          have HREL : Hid (SqrtAt f A w w1 v' (k + 1)) := Lib.hid ⟨_, more_bd HO.out hx, HST2.out, hown', hbel⟩
          clear hgrow hown hown' HST2 HOWN HOV
          go_wp2
          go_roundw
          case rel => exact ⟨k + 1, by go_num, by omega, by omega, HREL.out⟩
          case measure => simp [intOf]; omega
    · have hd : decide ((k : Int) < (n : Int)) = false := decide_eq_false (by omega)
      obtain rfl : k = n := by omega
      have HREL : Hid (SqrtAt f A w wr _ k) := Lib.hid ⟨O, HO.out, HINV.out, hown, hnx⟩
      clear hown
      go_wp2
      go_ret2
      exact ⟨_, rfl, HREL.out⟩
theorem sqrt_tab {p : Int} {n : Nat} {A O : Nat → Int} (h : EqN p n (mulS O O) A) : EqN p n (mulS (lf (tab n O)) (lf (tab n O))) A := ((tab_eq p n O).mul (tab_eq p n O)).trans h
theorem SqrtAt.list {f : Int} {a : List Int} {w w' : World} {v : Value} (ha : SerOk f a) (h : SqrtAt f (lf a) w w' v a.length) : ∃ x c, v = .slice x (sqrtL f a).length c ∧ Src w' x (sqrtL f a).length (lf (sqrtL f a)) ∧ Below w.heap.size w w' ∧ QSqrt f a (sqrtL f a) := by
  obtain ⟨O, hO, hinv, hown, hb⟩ := h
  have hp := P_bd ha.1.1 ha.1.2
  have n1 := ha.2.1
  have hq : QSqrt f a (tab a.length O) := ⟨tab_ser (by omega) hO, by rw [lf_tab, if_pos (by omega)]; exact hinv.2, sqrt_tab hinv.1⟩
  rw [sqrtL_eq ha hq]
  obtain ⟨x, c, hv, hS, hB⟩ := (owns_to (w := w) (l := tab a.length O) hown (tab_len _ _).symm (fun j hj => by rw [lf_tab, if_pos hj]) hb).list
  exact ⟨x, c, Ending.returned.inj hv, hS, hB, hq⟩
set_option maxRecDepth 100000 in
set_option maxHeartbeats 1600000 in
theorem sSeriesSqrt (f : Int) (a : Option Addr) (l : List Int) (cap : Nat) (w : World) (hn : l.length ≤ 1048576) (hs : Src w a l.length (lf l)) : Calls Tryd.prog 11 #[.int .i64 f, .slice a l.length cap] w (ListLB w (mSeriesSqrt0 f l) (mSeriesSqrt1 f l)) := by
  have R := sSeriesOk f a l cap w hn hs
  by_cases h : SqrtOk f l
  · rw [show mSeriesSqrt0 f l = sqrtL f l by unfold mSeriesSqrt0; rw [if_pos h], show mSeriesSqrt1 f l = true by unfold mSeriesSqrt1; simp [h]]
    rw [sok_iff.2 h.1] at R
    have n1 := h.1.2.1
    rcases hs with hq | ⟨b, off, rfl, hlt, hc⟩
    · omega
    refine (sSqrt_some f b off l.length cap (lf l) w (Lib.hid R) h.1.1 n1.1 n1.2 h.2 h.1.all hlt hc).mono fun e w' hp => ?_
    obtain ⟨v, rfl, hi⟩ := hp
    obtain ⟨x, c, rfl, hS, hB, hq⟩ := hi.list h.1
    exact ⟨x, c, rfl, hS, hB⟩
  · rw [show mSeriesSqrt0 f l = [] by unfold mSeriesSqrt0; rw [if_neg h], show mSeriesSqrt1 f l = false by unfold mSeriesSqrt1; simp [h]]
    by_cases h1 : SerOk f l
    · rw [sok_iff.2 h1] at R
      have n1 := h1.2.1
      have hne : lf l 0 ≠ 1 := fun hz => h ⟨h1, hz⟩
      have dz : (lf l 0 != 1) = true := by rw [bne_iff_ne]; exact hne
      rcases hs with hq | ⟨b, off, rfl, hlt, hc⟩
      · omega
      have cA : w.cell? ⟨b, off, none⟩ = some (.int .i64 (lf l 0)) := by have := hc 0 (by omega); rwa [Nat.add_zero] at this
      have n0 : (0 : Int) < (l.length : Int) := by omega
      clear h h1 hc hne
      go_enter Tryd.func11, Tryd.ntmps11
      go_wp2_with fail
      refine R.mono ?_
      rintro e w' ⟨rfl, rfl⟩
      go_wp2
      go_ret2
      exact ⟨none, 0, rfl, .inl rfl, Below.refl _ _⟩
    · rw [sok_not.2 h1] at R
      clear h h1 hs
      go_enter Tryd.func11, Tryd.ntmps11
      go_wp2_with fail
      refine R.mono ?_
      rintro e w' ⟨rfl, rfl⟩
      go_wp2
      go_ret2
      exact ⟨none, 0, rfl, .inl rfl, Below.refl _ _⟩
end Go.Proofs.YtmgggdibbhameabDoor
namespace Go.Proofs.YtmgggdibbhameabDoor
open Go.RowKit
def NilB (w : World) (e : Ending) (w' : World) : Prop := e = .returned (.tuple #[.slice none 0 0, .bool false]) ∧ Below w.heap.size w w'
theorem NilB.list {w w' : World} {l : List Int} {b : Bool} {e : Ending} (hl : l = []) (hb : b = false) (h : NilB w e w') : ListLB w l b e w' := by
  subst hl; subst hb
  obtain ⟨rfl, hb⟩ := h
  exact ⟨none, 0, rfl, .inl rfl, hb⟩
theorem NilB.own {w w' : World} {l : List Int} {b : Bool} {e : Ending} (hl : l = []) (hb : b = false) (h : NilB w e w') : OwnLB w l b e w' := by
  subst hl; subst hb
  obtain ⟨rfl, hb⟩ := h
  exact ⟨none, 0, rfl, OwnA.nil rfl, hb⟩
theorem OwnG.finishB {w w' : World} {l : List Int} {g : Nat} (hg : w.heap.size ≤ g) (ho : Own w' g l.length (lf l)) (hb : Below w.heap.size w w') : OwnLB w l true (.returned (.tuple #[.slice (some ⟨g, 0, none⟩) l.length l.length, .bool true])) w' := ⟨_, _, rfl, .inr ⟨g, rfl, rfl, hg, ho⟩, hb⟩
theorem pow_congr {p x y : Int} (h : x % p = y % p) (k : Nat) : x ^ k % p = y ^ k % p := by
  induction k with
  | zero => rw [Int.pow_zero, Int.pow_zero]
  | succ k ih => rw [Int.pow_succ, Int.pow_succ]; exact emod_mul_congr ih h
theorem power_nat {f : Int} (h0 : 0 ≤ f) (h8 : f ≤ 8) (x : Int) (k : Nat) : mPower f x k = RS (x ^ k) (P f) := by
  have hp := P_bd h0 h8
  unfold mPower
  rw [if_pos ⟨h0, h8⟩]
  by_cases hz : RS x (P f) = 0
  · rw [if_pos hz]
    unfold pow0
    have e0 : x % P f = 0 % P f := by rw [show x % P f = 0 from hz]; simp
    cases k with
    | zero => simp [RS]; exact (Int.emod_eq_of_lt (by omega) (by omega)).symm
    | succ k =>
      rw [if_neg (by omega), if_neg (by omega)]
      unfold RS
      rw [pow_congr e0 (k + 1), Int.pow_succ, Int.mul_zero]; simp
  · rw [if_neg hz]
    have bd := RS_bd (x := x) (m := P f) (by omega)
    have e1 : ((RS x (P f)).toNat : Int) = RS x (P f) := Int.toNat_of_nonneg bd.1
    have e2 : ((P f).toNat : Int) = P f := Int.toNat_of_nonneg (by omega)
    have hx : (RS x (P f)).toNat % (P f).toNat ≠ 0 := by rw [Nat.mod_eq_of_lt (by omega)]; omega
    have hm := (fldf h0 h8).pow_mod k hx
    unfold PW
    have e3 : (RS (k : Int) (P f - 1)).toNat = k % ((P f).toNat - 1) := by
      unfold RS
      rw [show P f - 1 = (((P f).toNat - 1 : Nat) : Int) by omega, ← Int.natCast_emod, Int.toNat_natCast]
    rw [e3, hm, Int.natCast_emod, Int.natCast_pow, e1, e2]
    unfold RS
    exact pow_congr (by simp) k
/-- Horner's sums. -/
def hz (f x : Int) (A : Nat → Int) (n : Nat) : Nat → Int
  | 0 => 0
  | t + 1 => RS (RS (hz f x A n t * x) (P f) + A (n - (t + 1))) (P f)
end Go.Proofs.YtmgggdibbhameabDoor
namespace Go.Proofs.YtmgggdibbhameabDoor
open Go.RowKit
set_option maxHeartbeats 800000 in
theorem sameZ_some (b off b2 off2 n cap cap2 : Nat) (F : Nat → Int) (w : World) (hn : n ≤ 1048576) (hlt : b < w.heap.size) (hlt2 : b2 < w.heap.size) (hc : ∀ j, j < n → w.cell? ⟨b, off + j, none⟩ = some (.int .i64 (F j))) (hc2 : ∀ j, j < n → w.cell? ⟨b2, off2 + j, none⟩ = some (.int .i64 (F j))) :
    Calls Tryd.prog 29 #[.slice (some ⟨b, off, none⟩) n cap, .slice (some ⟨b2, off2, none⟩) n cap2] w (TrueP w) := by
  have HC := Lib.hid hc
  have HC2 := Lib.hid hc2
  clear hc hc2
  go_enter Tryd.func29, Tryd.ntmps29
  go_wp2_with fail
  go_loopw [5] (fun i wr => ∃ k : Nat, i = .int .i64 k ∧ k ≤ n ∧ Below w.heap.size w wr) (fun i _ => n - (intOf i).toNat)
  case atStart => exact ⟨0, rfl, Nat.zero_le _, Below.refl _ _⟩
  case round =>
    obtain ⟨k, rfl, hk, hb⟩ := hrel
    by_cases h1 : k < n
    · have c1 : wr.cell? ⟨b, off + k, none⟩ = some (.int .i64 (F k)) := (hb.cell (p := ⟨b, off + k, none⟩) hlt).trans (HC.out k h1)
      have c2 : wr.cell? ⟨b2, off2 + k, none⟩ = some (.int .i64 (F k)) := (hb.cell (p := ⟨b2, off2 + k, none⟩) hlt2).trans (HC2.out k h1)
      go_wp2
      go_quiet (fail)
      go_wp2
      go_roundw
      case rel => exact ⟨k + 1, by go_num, by omega, below_drewN hb _⟩
      case measure => simp [intOf]; omega
    · have hd : decide (k < n) = false := by simpa using h1
      go_wp2
      go_ret
      exact ⟨rfl, hb⟩
theorem sameZ_none (a a2 : Option Addr) (cap cap2 : Nat) (w : World) : Calls Tryd.prog 29 #[.slice a 0 cap, .slice a2 0 cap2] w (TrueP w) := by
  go_enter Tryd.func29, Tryd.ntmps29
  go_wp2
  refine wp_loop_rounds 1 ?_
  rw [rounds_succ]
  go_wp2
  go_ret
  exact ⟨rfl, Below.refl _ _⟩
theorem sameZ (a a2 : Option Addr) (l : List Int) (cap cap2 : Nat) (w : World) (hn : l.length ≤ 1048576) (hs : Src w a l.length (lf l)) (hs2 : Src w a2 l.length (lf l)) : Calls Tryd.prog 29 #[.slice a l.length cap, .slice a2 l.length cap2] w (TrueP w) := by
  rcases hs with h | ⟨b, off, rfl, hlt, hc⟩
  · rw [h]; exact sameZ_none a a2 cap cap2 w
  · rcases hs2 with h | ⟨b2, off2, rfl, hlt2, hc2⟩
    · rw [h]; exact sameZ_none _ a2 cap cap2 w
    · exact sameZ_some b off b2 off2 l.length cap cap2 (lf l) w hn hlt hlt2 hc hc2
def SizeM (m : Int) (w : World) (e : Ending) (w' : World) : Prop := ∃ r : Int, e = .returned (.int .i64 r) ∧ 1 ≤ r ∧ r ≤ m ∧ w = w'
/-- The state of the loop that draws a list: the cursor's block is g. -/
def ZAt (g : Nat) (w wr : World) (v : Value) (k : Nat) : Prop := (∃ F, wr.ownsRow w.heap.size 3 1 v k (xsF F k)) ∧ Cur g wr ∧ w.grownBy wr (some g) ∧ w.heap.size ≤ wr.heap.size
theorem zxs_more (F : Nat → Int) (k : Nat) (x : Int) : xsF F k ++ [.int .i64 x] = xsF (fun j => if j < k then F j else x) (k + 1) := by
  rw [← xsF_succ, xsF_congr (F := F) (G := fun j => if j < k then F j else x) (fun j hj => by simp [hj])]
  simp
theorem zown_ne {wr : World} {B g : Nat} {v : Value} {k : Nat} {xs : List Value} (hB : g < B) (h : wr.ownsRow B 3 1 v k xs) : v.ownBlock = none ∨ v.ownBlock ≠ some g := by
  refine .inr fun e => ?_
  have := own_ge h g e
  omega
/-- Growth that writes only into a block made since is growth that writes only into g. -/
theorem grown_new {w w1 w2 : World} {g : Nat} {row : Option Nat} (h1 : w.grownBy w1 (some g)) (h2 : w1.grownBy w2 row) (hr : ∀ k, row = some k → w.heap.size ≤ k) : w.grownBy w2 (some g) :=
  ⟨h2.os.trans h1.os, h2.tape.trans h1.tape, h2.output.trans h1.output, Nat.le_trans h1.size h2.size, fun i hi hne => (h2.block i (Nat.lt_of_lt_of_le hi h1.size) (fun e => by have := hr i e.symm; omega)).trans (h1.block i hi hne)⟩
theorem zdraw_step {g : Nat} {w w1 w2 : World} {v v' : Value} {k : Nat} {x : Int} {F : Nat → Int} {o : Obj} (hB : g < w.heap.size) (g1 : w.grownBy w1 (some g)) (c1 : Cur g w1) (hown1 : w1.ownsRow w.heap.size 3 1 v k (xsF F k))
    (hown' : w2.ownsRow w.heap.size 3 1 v' (k + 1) (xsF F k ++ [.int .i64 x])) (hgrow : (w1.alloc o).grownBy w2 v.ownBlock) : ZAt g w w2 v' (k + 1) := by
  have hge := own_ge hown1
  have hg := grown_new (g1.trans (World.grownBy_alloc w1 o (some g))) hgrow hge
  exact ⟨⟨_, by rw [zxs_more] at hown'; exact hown'⟩, (c1.alloc o).other hgrow (fun r hr => by have := hge r hr; omega), hg, hg.size⟩
def ZRow (g : Nat) (w : World) (n : Nat) (e : Ending) (w' : World) : Prop := ∃ v, e = .returned v ∧ ZAt g w w' v n
set_option maxRecDepth 100000 in
set_option maxHeartbeats 1600000 in
theorem drawList_c (g : Nat) (f : Int) (n : Nat) (w : World) (hc : Cur g w) (hn : n ≤ 4096) : Calls Tryd.prog 88 #[.pointer (some ⟨g, 0, none⟩), .int .i64 f, .int .i64 n] w (ZRow g w n) := by
  obtain ⟨i0, hi, hz0, hz1, hz2⟩ := info_parts info3
  have HI := Lib.hid hi
  have HZ0 := Lib.hid hz0
  have HZ1 := Lib.hid hz1
  have HZ2 := Lib.hid hz2
  clear hi hz0 hz1 hz2
  have hB : g < w.heap.size := hc.lt
  go_enter Tryd.func88, Tryd.ntmps88
  go_wp2_with fail
  go_loopw [7, 8] (fun v i wr => ∃ k : Nat, i = .int .i64 k ∧ k ≤ n ∧ ZAt g w wr v k) (fun _ i _ => n - (intOf i).toNat)
  case atStart => exact ⟨0, rfl, by omega, ⟨fun _ => 0, own_empty w (fun _ => 0)⟩, hc.alloc _, World.grownBy_alloc _ _ _, by simp⟩
  case round =>
    obtain ⟨k, rfl, hk, ⟨F, hown⟩, hcur, hbel, hsz⟩ := hrel
    by_cases hlt : k < n
    · have hd : decide ((k : Int) < n) = true := decide_eq_true (by omega)
      go_wp2_with fail
      refine (element_c g f wr hcur).mono ?_
      rintro e w9 ⟨x9, _, rfl, g9, c9⟩
      have hown9 := hown.kept g9 (zown_ne hB hown)
      have hb9 := hbel.trans g9
      have hs9 : w.heap.size ≤ w9.heap.size := Nat.le_trans hsz g9.size
      clear hown hcur hbel g9
      go_wp2_with (at_builtin; refine wpList_append_own _ rfl _ _ 22 rfl w.heap.size 3 i0 (.int .i64 0) 1 8 Tryd.underlying22 HI.out HZ0.out HZ1.out HZ2.out rfl (by decide) _ _ _ rfl (hown9.alloc _) ⟨w9.heap.size, 0, none⟩ 1 1 [.int .i64 x9] rfl rfl ?c1 ?c2 ?c3 ?c4 ?c5 ?_)
      case c1 => exact cell_one_new _ _ _
      case c2 => intro u hu; simp at hu; subst hu; rfl
      case c3 => unfold maxLen; omega
      case c4 => omega
      case c5 => simp; omega
      intro v' w10 hown' hgrow _
      have hst := zdraw_step hB hb9 c9 hown9 hown' hgrow
      clear hgrow hown' hown9 c9 hb9
      go_wp2
      go_roundw
      case rel => exact ⟨k + 1, by go_num, by omega, hst⟩
      case measure => simp [intOf]; omega
    · have hd : decide ((k : Int) < n) = false := decide_eq_false (by omega)
      obtain rfl : k = n := by omega
      go_wp2
      go_ret
      exact ⟨_, rfl, ⟨F, hown⟩, hcur, hbel, hsz⟩
/-- A list apart from the cursor. -/
def SrcO (g : Nat) (w : World) (a : Option Addr) (n : Nat) (F : Nat → Int) : Prop :=
  n = 0 ∨ ∃ b off, a = some ⟨b, off, none⟩ ∧ b ≠ g ∧ b < w.heap.size ∧ ∀ j, j < n → w.cell? ⟨b, off + j, none⟩ = some (.int .i64 (F j))
theorem SrcO.src {g : Nat} {w : World} {a : Option Addr} {n : Nat} {F : Nat → Int} (h : SrcO g w a n F) : Src w a n F := by
  refine h.imp id ?_
  rintro ⟨b, off, e, _, hlt, hc⟩
  exact ⟨b, off, e, hlt, hc⟩
theorem SrcO.grown {g : Nat} {w w' : World} {a : Option Addr} {n : Nat} {F : Nat → Int} (h : SrcO g w a n F) (hg : w.grownBy w' (some g)) : SrcO g w' a n F := by
  refine h.imp id ?_
  rintro ⟨b, off, e, hne, hlt, hc⟩
  exact ⟨b, off, e, hne, Nat.lt_of_lt_of_le hlt hg.size, fun j hj => hg.cell (hc j hj) (fun e => by injection e with e; exact hne e)⟩
theorem SrcO.of {B g : Nat} {w : World} {v : Value} {n : Nat} {F : Nat → Int} (h : w.ownsRow B 3 1 v n (xsF F n)) (hB : g < B) : ∃ a cap, v = .slice a n cap ∧ n ≤ cap ∧ SrcO g w a n F := by
  by_cases hn : n = 0
  · obtain ⟨a, cap, hv, hc, _⟩ := src_of_owns2 h
    exact ⟨a, cap, hv, hc, .inl hn⟩
  · obtain ⟨g2, cap, hv, hg, ho⟩ := OwnV.of_owns h hn
    have hcap : n ≤ cap := by obtain ⟨_, _, h, _⟩ := ho; exact h
    exact ⟨_, cap, hv, hcap, .inr ⟨g2, 0, rfl, by omega, ho.lt, fun j hj => by rw [Nat.zero_add]; exact ho.cell hj⟩⟩
theorem Cur.below {g : Nat} {w w' : World} (h : Cur g w) (hb : Below w.heap.size w w') : Cur g w' :=
  h.other (row := none) ⟨hb.os, hb.tape, hb.output, hb.size, fun i hi _ => hb.block i hi⟩ (fun _ h => by cases h)
/-- The drawn list, in a row of the draw's own. -/
def ZPol (g : Nat) (w : World) (n : Nat) (e : Ending) (w' : World) : Prop := ∃ (l : List Int) (a : Option Addr) (cap : Nat), e = .returned (.slice a l.length cap) ∧ l.length ≤ n ∧ l.length ≤ cap ∧ SrcO g w' a l.length (lf l) ∧ Cur g w' ∧ w.grownBy w' (some g)
theorem ZPol.of {g : Nat} {w w' : World} {v : Value} {n : Nat} {l : List Int} (h : w'.ownsRow w.heap.size 3 1 v l.length (xsF (lf l) l.length)) (hB : g < w.heap.size) (hl : l.length ≤ n) (hc : Cur g w') (hg : w.grownBy w' (some g)) : ZPol g w n (.returned v) w' := by
  obtain ⟨a, cap, rfl, hcap, hs⟩ := SrcO.of h hB
  exact ⟨l, a, cap, rfl, hl, hcap, hs, hc, hg⟩
theorem lf_tabF (n : Nat) (F : Nat → Int) : xsF (lf (tab n F)) n = xsF F n := xsF_congr fun j hj => by rw [lf_tab, if_pos hj]
/-- The row, its last number written anew. -/
theorem owns_to_tab {w : World} {B n : Nat} {v : Value} {F : Nat → Int} (h : w.ownsRow B 3 1 v n (xsF F n)) : w.ownsRow B 3 1 v (tab n F).length (xsF (lf (tab n F)) (tab n F).length) := by
  rw [tab_len, lf_tabF]
  exact h
end Go.Proofs.YtmgggdibbhameabDoor
namespace Go.Proofs.YtmgggdibbhameabDoor
open Go.RowKit
/-- Powers by squaring: O times X to the k is what is wanted. -/
def SPAt (f : Int) (n : Nat) (B : Nat → Int) (E k : Nat) (O X : List Int) : Prop := Ser f n O ∧ Ser f n X ∧ EqN (P f) n (mulS (lf O) (powS (lf X) k)) (powS B E)
theorem smul_eq {f : Int} {n : Nat} {O X : List Int} (hO : Ser f n O) : EqN (P f) n (lf (smulL f O X)) (mulS (lf O) (lf X)) := by
  have : EqN (P f) O.length (lf (smulL f O X)) (mulS (lf O) (lf X)) := elL_eq _ _
  rwa [hO.1] at this
theorem smul_ser {f : Int} (h0 : 0 ≤ f) (h8 : f ≤ 8) {n : Nat} {O X : List Int} (hO : Ser f n O) : Ser f n (smulL f O X) := by
  have : Ser f O.length (smulL f O X) := elL_ser h0 h8 _ _
  rwa [hO.1] at this
theorem sq_pow (A : Nat → Int) (h : Nat) : powS (mulS A A) h = powS A (h + h) := by rw [pow_mulS, ← pow_addS]
theorem SPAt.odd {f : Int} (h0 : 0 ≤ f) (h8 : f ≤ 8) {n : Nat} {B : Nat → Int} {E k : Nat} {O X : List Int} (h : SPAt f n B E k O X) (hk : k % 2 = 1) : SPAt f n B E (k / 2) (smulL f O X) (smulL f X X) := by
  refine ⟨smul_ser h0 h8 h.1, smul_ser h0 h8 h.2.1, ?_⟩
  have e := (smul_eq (X := X) h.1).mul (EqN.pow (smul_eq (X := X) h.2.1) (k / 2))
  refine e.trans ?_
  have e2 : powS (lf X) k = mulS (powS (lf X) (k / 2 + k / 2)) (lf X) := by
    have : k = (k / 2 + k / 2) + 1 := by omega
    exact congrArg (powS (lf X)) this
  rw [sq_pow, mul_assocS, mul_commS (lf X), ← e2]
  exact h.2.2
theorem SPAt.even {f : Int} (h0 : 0 ≤ f) (h8 : f ≤ 8) {n : Nat} {B : Nat → Int} {E k : Nat} {O X : List Int} (h : SPAt f n B E k O X) (hk : k % 2 = 0) : SPAt f n B E (k / 2) O (smulL f X X) := by
  refine ⟨h.1, smul_ser h0 h8 h.2.1, ?_⟩
  have e := (EqN.refl (P f) n (lf O)).mul (EqN.pow (smul_eq (X := X) h.2.1) (k / 2))
  refine e.trans ?_
  rw [sq_pow, show k / 2 + k / 2 = k by omega]
  exact h.2.2
theorem SPAt.start {f : Int} (h0 : 0 ≤ f) (h8 : f ≤ 8) {n : Nat} {X : List Int} (hX : Ser f n X) (E : Nat) : SPAt f n (lf X) E E (tab n oneS) X := by
  have hp := P_bd h0 h8
  refine ⟨tab_ser (by omega) (one_bd h0 h8), hX, ?_⟩
  have e := (tab_eq (P f) n oneS).mul (EqN.refl (P f) n (powS (lf X) E))
  rwa [one_mul] at e
end Go.Proofs.YtmgggdibbhameabDoor
namespace Go.Proofs.YtmgggdibbhameabDoor
open Go.RowKit
theorem src_same {w : World} {a : Option Addr} {n : Nat} {F G : Nat → Int} (h : Src w a n F) (e : ∀ j, j < n → F j = G j) : Src w a n G := by
  rcases h with h | ⟨b, off, ha, hl, hc⟩
  · exact .inl h
  · exact .inr ⟨b, off, ha, hl, fun j hj => by rw [← e j hj]; exact hc j hj⟩
/-- A from its place i on. -/
def dpS (A : Nat → Int) (i : Nat) : Nat → Int := fun j => A (i + j)
def IntoAt (f : Int) (n : Nat) (A X : Nat → Int) (i : Nat) (O : List Int) : Prop := Ser f n O ∧ EqN (P f) n (lf O) (inS (dpS A i) X (n - i))
theorem into_start {f : Int} (h0 : 0 ≤ f) (h8 : f ≤ 8) (n : Nat) (A X : Nat → Int) : IntoAt f n A X n (tab n fun _ => 0) := by
  have hp := P_bd h0 h8
  refine ⟨tab_ser (by omega) (fun _ => by show (0 : Int) ≤ 0 ∧ (0 : Int) < P f; omega), fun i hi => ?_⟩
  rw [lf_tab, if_pos hi, Nat.sub_self]
  rfl
theorem into_step {f : Int} (h0 : 0 ≤ f) (h8 : f ≤ 8) {n : Nat} {A : Nat → Int} {m O : List Int} {k : Nat} (hk : k < n) (h : IntoAt f n A (lf m) (k + 1) O) : IntoAt f n A (lf m) k (tab n (upd (lf (smulL f O m)) 0 (RS (lf (smulL f O m) 0 + A k) (P f)))) := by
  have hp := P_bd h0 h8
  have hS := smul_ser (X := m) h0 h8 h.1
  refine ⟨tab_ser (by omega) (fun j => ?_), (tab_eq _ _ _).trans ?_⟩
  · unfold upd
    split
    · exact RS_bd (by omega)
    · exact hS.2 j
  · have e1 : n - k = (n - (k + 1)) + 1 := by omega
    have e2 : tl (dpS A k) = dpS A (k + 1) := by
      funext j
      show A (k + (j + 1)) = A (k + 1 + j)
      congr 1
      omega
    rw [e1, inS_horner, e2]
    have e3 : EqN (P f) n (lf (smulL f O m)) (mulS (lf m) (inS (dpS A (k + 1)) (lf m) (n - (k + 1)))) := by
      refine (smul_eq h.1).trans ?_
      rw [mul_commS]
      exact (EqN.refl _ _ _).mul h.2
    intro i hi
    have e4 := e3 i hi
    show upd (lf (smulL f O m)) 0 _ i % P f = (A (k + 0) * oneS i + mulS (lf m) (inS (dpS A (k + 1)) (lf m) (n - (k + 1))) i) % P f
    unfold upd
    by_cases hz : i = 0
    · subst hz
      rw [if_pos rfl]
      have e5 : oneS 0 = 1 := rfl
      rw [e5, Int.mul_one, Nat.add_zero]
      unfold RS
      rw [Int.emod_emod_of_dvd _ (Int.dvd_refl _), Int.add_comm]
      exact emod_add_congr rfl e4
    · rw [if_neg hz]
      have e5 : oneS i = 0 := if_neg hz
      rw [e5, Int.mul_zero, Int.zero_add]
      exact e4
theorem into_fin {f : Int} (h0 : 0 ≤ f) (h8 : f ≤ 8) {n : Nat} {A X : Nat → Int} {O : List Int} (h : IntoAt f n A X 0 O) : elL f n (inS A X n) = O := by
  have e : dpS A 0 = A := by
    funext j
    show A (0 + j) = A j
    rw [Nat.zero_add]
  have h2 := h.2
  rw [e, Nat.sub_zero] at h2
  exact elL_of h0 h8 h.1 h2
set_option maxRecDepth 100000 in
set_option maxHeartbeats 3200000 in
theorem sInto_on (f : Int) (a : Option Addr) (l : List Int) (cap : Nat) (a2 : Option Addr) (m : List Int) (cap2 : Nat) (w : World) (hs : Src w a l.length (lf l)) (hs2 : Src w a2 m.length (lf m)) (h : IntoOk f l m) : Calls Tryd.prog 17 #[.int .i64 f, .slice a l.length cap, .slice a2 m.length cap2] w (ListLB w (intoL f l m) true) := by
  have n1 := h.1.2.1.2.1.1
  have n2 := h.1.2.1.2.1.2
  have hf0 := h.1.2.1.1.1
  have hf8 := h.1.2.1.1.2
  have hlen := h.1.1
  have R := Lib.hid (sFit f a l cap a2 m cap2 w (by omega) (by omega) hs hs2)
  rw [fit_iff.2 h.1] at R
  have HM : Hid (∀ O o d W, Ser f l.length O → Src W o l.length (lf O) → Below w.heap.size w W → Calls Tryd.prog 48 #[.int .i64 f, .slice o l.length d, .slice a2 m.length cap2] W (fun e w' => ∃ g c, e = .returned (.slice (some ⟨g, 0, none⟩) l.length c) ∧ W.heap.size ≤ g ∧ OwnV w' g l.length c (lf (smulL f O m)) ∧ Below W.heap.size W w')) := Lib.hid fun O o d W h1 s1 hb => by
    have := sSeriesMul_on f o O d a2 m cap2 W (by rw [h1.1]; exact s1) (hs2.keep hb) ⟨h1.1.trans hlen, h1.ok ⟨hf0, hf8⟩ n1 n2, h.1.2.2⟩
    rw [h1.1] at this
    refine this.mono fun e w' ho => ?_
    obtain ⟨v, rfl, ho, hb2⟩ := ho
    rw [(smul_ser (X := m) hf0 hf8 h1).1] at ho
    obtain ⟨g, c, rfl, hg, hov⟩ := OwnV.of_owns ho (by omega)
    exact ⟨g, c, rfl, hg, hov, hb2⟩
  have HAD : Hid (∀ x y w, Calls Tryd.prog 33 #[.int .i64 f, .int .i64 x, .int .i64 y] w fun e w' => e = .returned (.int .i64 (RS (x + y) (P f))) ∧ w = w') := Lib.hid fun x y w => by have := sAdd f x y w; rwa [mAdd, if_pos ⟨hf0, hf8⟩] at this
  have HST : Hid (∀ O k, k < l.length → IntoAt f l.length (lf l) (lf m) (k + 1) O → IntoAt f l.length (lf l) (lf m) k (tab l.length (upd (lf (smulL f O m)) 0 (RS (lf (smulL f O m) 0 + lf l k) (P f))))) := Lib.hid fun O k hk hh => into_step hf0 hf8 hk hh
  have HSP : Hid (IntoAt f l.length (lf l) (lf m) l.length (tab l.length fun _ => 0)) := Lib.hid (into_start hf0 hf8 _ _ _)
  have HE : Hid (∀ O, IntoAt f l.length (lf l) (lf m) 0 O → O.length = l.length ∧ O = intoL f l m) := Lib.hid fun O hh => ⟨hh.1.1, (into_fin hf0 hf8 hh).symm⟩
  have HO1 : Hid ((w.alloc (.cells #[] 3)).ownsRow w.heap.size 3 1 (.slice (some ⟨w.heap.size, 0, none⟩) 0 0) 0 (xsF (fun _ => 0) 0)) := Lib.hid (own_empty w _)
  obtain ⟨i0, hi, hz0, hz1, hz2⟩ := info_parts info3
  have HI := Lib.hid hi
  have HZ0 := Lib.hid hz0
  have HZ1 := Lib.hid hz1
  have HZ2 := Lib.hid hz2
  have n0 : (0 : Int) < (l.length : Int) := by omega
  have m0 : (0 : Int) < (m.length : Int) := by omega
  have hb0 := h.2
  rcases hs with hq | ⟨b, off, rfl, hlt, hc⟩
  · omega
  have HC := Lib.hid hc
  rcases hs2 with hq | ⟨b2, off2, rfl, hlt2, hc2⟩
  · omega
  have cB : w.cell? ⟨b2, off2, none⟩ = some (.int .i64 0) := by have := hc2 0 (by omega); rwa [Nat.add_zero, hb0] at this
  clear hi hz0 hz1 hz2 h hc hc2 hb0 hlen
  go_enter Tryd.func17, Tryd.ntmps17
  go_wp2_with fail
  refine R.out.mono ?_
  rintro e9 w' ⟨rfl, rfl⟩
  go_wp2_with fail
  clear R cB
  go_loopw [8, 9] (fun v i wr => ∃ k : Nat, i = .int .i64 k ∧ k ≤ l.length ∧ wr.ownsRow w.heap.size 3 1 v k (xsF (fun _ => 0) k) ∧ Below w.heap.size w wr) (fun _ i _ => l.length - (intOf i).toNat)
  case atStart => exact ⟨0, rfl, Nat.zero_le _, HO1.out, (Below.refl _ _).alloc (Nat.le_refl _) _⟩
  case round =>
    clear HO1
    obtain ⟨k, rfl, hk, hown, hnx⟩ := hrel
    have hs := hnx.size
    by_cases h1 : k < l.length
    · have hd1 : decide ((k : Int) < l.length) = true := decide_eq_true (by omega)
      go_wp2_with (at_builtin; refine wpList_append_own _ rfl _ _ 22 rfl w.heap.size 3 i0 (.int .i64 0) 1 8 Tryd.underlying22 HI.out HZ0.out HZ1.out HZ2.out rfl (by decide) _ _ _ rfl (hown.alloc _) ⟨wr.heap.size, 0, none⟩ 1 1 [.int .i64 0] rfl rfl ?c1 ?c2 ?c3 ?c4 ?c5 ?_)
      case c1 => exact cell_one_new _ _ _
      case c2 => intro u hu; simp at hu; subst hu; rfl
      case c3 => unfold maxLen; omega
      case c4 => omega
      case c5 => simp; omega
      intro v' w8 hown' hgrow _
      have hbel : Below w.heap.size w w8 := (hnx.alloc hs _).grown hgrow (by simp; omega) (own_ge hown)
      have hown2 : w8.ownsRow w.heap.size 3 1 v' (k + 1) (xsF (fun _ => 0) (k + 1)) := by
        rw [← xsF_succ]; exact hown'
      clear hgrow hown hown'
      go_wp2
      go_roundw
      case rel => exact ⟨k + 1, by go_num, by omega, hown2, hbel⟩
      case measure => simp [intOf]; omega
    · have hd1 : decide ((k : Int) < l.length) = false := decide_eq_false (by omega)
      have HK := Lib.hid (show k = l.length by omega)
      have HOW := Lib.hid hown
      have HNX := Lib.hid hnx
      clear hown hnx
      go_wp2_with fail
      go_loopw [8, 10] (fun ov iv wr => ∃ (i : Int) (O : List Int) (oa : Option Addr) (oc : Nat), iv = .int .i64 i ∧ ov = .slice oa l.length oc ∧ -1 ≤ i ∧ i < l.length ∧ Src wr oa l.length (lf O) ∧ IntoAt f l.length (lf l) (lf m) (i + 1).toNat O ∧ Below w.heap.size w wr) (fun _ iv _ => (intOf iv + 1).toNat)
      case atStart =>
        have ho := HOW.out
        rw [HK.out] at ho
        obtain ⟨oa, oc, rfl, _, hso⟩ := src_of_owns2 ho
        refine ⟨(l.length : Int) - 1, tab l.length fun _ => 0, oa, oc, rfl, rfl, by omega, by omega, src_same hso fun j hj => ?_, ?_, HNX.out⟩
        · rw [lf_tab, if_pos hj]
        · rw [show ((l.length : Int) - 1 + 1).toNat = l.length by omega]; exact HSP.out
      case round =>
        clear HSP HOW HK HNX hd1 h1 hk hs
        obtain ⟨i, O, oa, oc, rfl, rfl, i0', i1', hso, hat, hb⟩ := hrel
        by_cases hm : 0 ≤ i
        · obtain ⟨k, rfl⟩ : ∃ k : Nat, i = (k : Int) := ⟨i.toNat, by omega⟩
          have hkl : k < l.length := by omega
          have HAT : Hid (IntoAt f l.length (lf l) (lf m) (k + 1) O) := Lib.hid (by rw [show ((k : Int) + 1).toNat = k + 1 by omega] at hat; exact hat)
          have HN := Lib.hid (HST.out O k hkl HAT.out)
          have HM1 := Lib.hid (HM.out O oa oc wr HAT.out.1 hso hb)
          clear hat hso HAT hm
          go_wp2_with fail
          refine HM1.out.mono ?_
          rintro e9 w3 ⟨g, c, rfl, hg, hov, hb3⟩
          have hbw := below_up hb hb3 hb.size
          have hbd : Below w.heap.size w w3.drew := ⟨hbw.os, hbw.tape, hbw.output, hbw.size, hbw.block⟩
          have hov1 : OwnV w3.drew g l.length c (lf (smulL f O m)) := hov
          have hgw : w.heap.size ≤ g := Nat.le_trans hb.size hg
          have HS1 := Lib.hid (OwnV.set (s := 0) (x := RS (lf (smulL f O m) 0 + lf l k) (P f)) hov1)
          have HS3 := Lib.hid (hbd.setCell (p := ⟨g, 0, none⟩) hgw (.int .i64 (RS (lf (smulL f O m) 0 + lf l k) (P f))))
          have cO := hov.cell (show 0 < l.length by omega)
          have cOd := hov1.cell (show 0 < l.length by omega)
          have fO := hov1.frozen 0
          have cA : w3.cell? ⟨b, off + k, none⟩ = some (.int .i64 (lf l k)) := (hbw.cell (p := ⟨b, off + k, none⟩) hlt).trans (HC.out k hkl)
          have cAd : w3.drew.cell? ⟨b, off + k, none⟩ = some (.int .i64 (lf l k)) := cA
          have q1 : (k : Int) < l.length := by omega
          have q0 : 0 < l.length := by omega
          clear hov hov1 hbw hbd hb3 HM1 hb
          generalize upd (lf (smulL f O m)) 0 (RS (lf (smulL f O m) 0 + lf l k) (P f)) = UU at *
          generalize lf (smulL f O m) 0 = S0 at *
          generalize lf l k = A0 at *
          go_wp2
          refine wp_region_still_tail 11 (by kernel_rfl) (by kernel_rfl) ?_
          simp only [List.take_succ_cons, List.take_zero, List.drop_succ_cons, List.drop_zero]
          still_step
          still_step
          still_step
          still_step
          still_step
          still_step
          still_step
          still_step
          still_step
          still_call ((HAD.out S0 A0 w3.drew).mono fun _ _ h => ⟨h.1, h.2.symm⟩)
          still_step
          refine wpStill_nil ?_
          change wpList _ _ _ _ _ w3.drew
          clear cO cA
          generalize w3.drew = W2 at *
          go_wp2
          go_roundw
          case rel => exact ⟨(k : Int) - 1, tab l.length UU, _, _, rfl, rfl, by omega, by omega, src_same HS1.out.src (fun j hj => by rw [lf_tab, if_pos hj]), by rw [show ((k : Int) - 1 + 1).toNat = k by omega]; exact HN.out, HS3.out⟩
          case measure => simp [intOf] <;> omega
        · have dm : decide (0 ≤ i) = false := decide_eq_false hm
          obtain rfl : i = -1 := by omega
          have HEQ := Lib.hid (HE.out O hat)
          have HSO := Lib.hid hso
          have HBB := Lib.hid hb
          clear hat hso hb
          go_wp2
          go_ret2
          rw [← HEQ.out.2]
          exact ⟨_, _, by rw [HEQ.out.1]; rfl, by rw [HEQ.out.1]; exact HSO.out, HBB.out⟩
set_option maxRecDepth 100000 in
set_option maxHeartbeats 1600000 in
theorem sSeriesInto (f : Int) (a : Option Addr) (l : List Int) (cap : Nat) (a2 : Option Addr) (m : List Int) (cap2 : Nat) (w : World) (hn : l.length ≤ 1048576) (hn2 : m.length ≤ 1048576) (hs : Src w a l.length (lf l)) (hs2 : Src w a2 m.length (lf m)) : Calls Tryd.prog 17 #[.int .i64 f, .slice a l.length cap, .slice a2 m.length cap2] w (ListLB w (mSeriesInto0 f l m) (mSeriesInto1 f l m)) := by
  by_cases h : IntoOk f l m
  · rw [show mSeriesInto0 f l m = intoL f l m by unfold mSeriesInto0; rw [if_pos h], show mSeriesInto1 f l m = true by unfold mSeriesInto1; simp [h]]
    exact sInto_on f a l cap a2 m cap2 w hs hs2 h
  · rw [show mSeriesInto0 f l m = [] by unfold mSeriesInto0; rw [if_neg h], show mSeriesInto1 f l m = false by unfold mSeriesInto1; simp [h]]
    have R := sFit f a l cap a2 m cap2 w hn hn2 hs hs2
    by_cases h1 : FitOk f l m
    · rw [fit_iff.2 h1] at R
      have hz : lf m 0 ≠ 0 := fun hz => h ⟨h1, hz⟩
      have dz : (lf m 0 != 0) = true := by rw [bne_iff_ne]; exact hz
      have n1 := h1.2.2.2.1
      rcases hs2 with hq | ⟨b, off, rfl, hlt, hc⟩
      · omega
      have cA : w.cell? ⟨b, off, none⟩ = some (.int .i64 (lf m 0)) := by have := hc 0 (by omega); rwa [Nat.add_zero] at this
      have n0 : (0 : Int) < (m.length : Int) := by omega
      clear h h1 hc hz
      go_enter Tryd.func17, Tryd.ntmps17
      go_wp2_with fail
      refine R.mono ?_
      rintro e9 w' ⟨rfl, rfl⟩
      go_wp2
      go_ret2
      exact ⟨none, 0, rfl, .inl rfl, Below.refl _ _⟩
    · rw [fit_not.2 h1] at R
      clear h h1 hs hs2
      go_enter Tryd.func17, Tryd.ntmps17
      go_wp2_with fail
      refine R.mono ?_
      rintro e9 w' ⟨rfl, rfl⟩
      go_wp2
      go_ret2
      exact ⟨none, 0, rfl, .inl rfl, Below.refl _ _⟩
end Go.Proofs.YtmgggdibbhameabDoor
namespace Go.Proofs.YtmgggdibbhameabDoor
open Go.RowKit
def eS (A : Nat → Int) : Nat → Int := fun k => if k = 0 then 1 else A (k - 1)
def npar (A O : Nat → Int) (k i : Nat) : Int := sumN (fun j => (-1) ^ j * (A j * O (k - 1 - j))) i
theorem sign_at (j d : Nat) : ((-1 : Int)) ^ (j + 1 + d) * (-1) ^ j = - (-1) ^ d := by
  rw [Int.pow_add, Int.pow_succ]
  rcases pm_one j with h | h <;> rcases pm_one d with g | g <;> rw [h, g] <;> rfl
theorem newt_more {p : Int} {A O : Nat → Int} {k : Nat} (h : IsNewt p k (eS A) O) : IsNewt p (k + 1) (eS A) (more O k (RS ((-1) ^ k * (((k + 1 : Nat) : Int) * A k) + npar A O k k) p)) := by
  obtain ⟨X, hX⟩ : ∃ X, RS ((-1) ^ k * (((k + 1 : Nat) : Int) * A k) + npar A O k k) p = X := ⟨_, rfl⟩
  rw [hX]
  intro i hi
  by_cases e : i < k + 1
  · have e1 : cv i (sgnS (more O k X)) (eS A) = cv i (sgnS O) (eS A) := cv_congr (fun j hj => by
      unfold sgnS
      by_cases hz : j = 0
      · rw [if_pos hz, if_pos hz]
      · rw [if_neg hz, if_neg hz, more_lo (by omega)]) (fun _ _ => rfl)
    show thS (eS A) i % p = cv i (sgnS (more O k X)) (eS A) % p
    rw [e1]
    exact h i e
  · obtain rfl : i = k + 1 := by omega
    show (((k + 1 : Nat) : Int) * A k) % p = cv (k + 1) (sgnS (more O k X)) (eS A) % p
    rw [cv_comm, cv_ipar]
    have e0 : eS A 0 = 1 := rfl
    have e1 : sgnS (more O k X) (k + 1) = (-1) ^ k * X := by
      show (-1) ^ k * more O k X k = _
      rw [more_at]
    have e2 : ipar (eS A) (sgnS (more O k X)) (k + 1) (k + 1) = - ((-1) ^ k * npar A O k k) := by
      rw [ipar_succ]
      have z : sgnS (more O k X) (k + 1 - (k + 1)) = 0 := by rw [Nat.sub_self]; rfl
      rw [z, Int.mul_zero, Int.add_zero]
      unfold ipar npar
      rw [← sumN_mul]
      have e3 : ∀ (F : Nat → Int) (m : Nat), - sumN F m = sumN (fun j => - F j) m := fun F m => by
        have := sumN_mul (-1) F m
        rw [show (fun j => - F j) = fun j => -1 * F j from funext fun j => by omega, this]
        omega
      rw [e3]
      refine sumN_congr fun j hj => ?_
      obtain ⟨d, rfl⟩ : ∃ d, k = j + 1 + d := ⟨k - (j + 1), by omega⟩
      have s1 := sign_at j d
      have s2 : sgnS (more O (j + 1 + d) X) (j + 1 + d + 1 - (j + 1)) = (-1) ^ d * O d := by
        rw [show j + 1 + d + 1 - (j + 1) = d + 1 by omega]
        show (-1) ^ d * more O (j + 1 + d) X d = _
        rw [more_lo (by omega)]
      have s3 : eS A (j + 1) = A j := rfl
      rw [s2, s3, show j + 1 + d - 1 - j = d by omega, ← Int.mul_assoc ((-1) ^ (j + 1 + d)), s1]
      rw [Int.neg_mul, Int.neg_neg, ← Int.mul_assoc, Int.mul_comm (A j), Int.mul_assoc]
    rw [e0, Int.one_mul, e1, e2]
    have e4 : ((-1) ^ k * X) % p = ((-1) ^ k * ((-1) ^ k * (((k + 1 : Nat) : Int) * A k) + npar A O k k)) % p := emod_mul_congr rfl (by
      rw [← hX]
      unfold RS
      exact Int.emod_emod_of_dvd _ (Int.dvd_refl _))
    have e5 : ((-1 : Int)) ^ k * ((-1) ^ k * (((k + 1 : Nat) : Int) * A k) + npar A O k k) = (((k + 1 : Nat) : Int) * A k) + (-1) ^ k * npar A O k k := by
      rcases pm_one k with g | g <;> rw [g] <;> omega
    rw [e5] at e4
    have e6 := emod_add_congr e4 (show (- ((-1) ^ k * npar A O k k)) % p = (- ((-1) ^ k * npar A O k k)) % p from rfl)
    rw [e6]
    congr 1
    omega
theorem pow_even {k : Nat} (h : k % 2 = 0) : ((-1 : Int)) ^ k = 1 := by
  obtain ⟨m, rfl⟩ : ∃ m, k = m + m := ⟨k / 2, by omega⟩
  rw [Int.pow_add]
  rcases pm_one m with g | g <;> rw [g] <;> rfl
theorem pow_odd {k : Nat} (h : k % 2 = 1) : ((-1 : Int)) ^ k = -1 := by
  obtain ⟨m, rfl⟩ : ∃ m, k = m + 1 := ⟨k - 1, by omega⟩
  rw [Int.pow_succ, pow_even (by omega)]
  rfl
theorem rs_minus (X p : Int) : RS (-RS X p) p = RS (-1 * X) p := by
  unfold RS
  have e : (0 - X % p) % p = (0 - X) % p := by rw [Int.sub_emod, Int.emod_emod_of_dvd _ (Int.dvd_refl _), ← Int.sub_emod]
  rw [show -(X % p) = 0 - X % p by omega, e]
  congr 1
  omega
theorem rs_plus (X Y p : Int) : RS (RS X p + RS Y p) p = RS (X + Y) p := by
  unfold RS
  exact (Int.add_emod X Y p).symm
theorem np_even {A O : Nat → Int} {k i : Nat} {d p : Int} (h : i % 2 = 0) : RS (RS (d + npar A O k i) p + RS (A i * O (k - 1 - i)) p) p = RS (d + npar A O k (i + 1)) p := by
  rw [rs_plus]
  show _ = RS (d + (npar A O k i + (-1) ^ i * (A i * O (k - 1 - i)))) p
  rw [pow_even h]
  congr 1
  omega
theorem np_odd {A O : Nat → Int} {k i : Nat} {d p : Int} (h : i % 2 = 1) : RS (RS (d + npar A O k i) p + RS (-RS (A i * O (k - 1 - i)) p) p) p = RS (d + npar A O k (i + 1)) p := by
  rw [rs_minus, rs_plus]
  show _ = RS (d + (npar A O k i + (-1) ^ i * (A i * O (k - 1 - i)))) p
  rw [pow_odd h]
  congr 1
  omega
/-- The power sums so far. -/
def NewtAt (f : Int) (A : Nat → Int) (w wr : World) (v : Value) (k : Nat) : Prop := ∃ O : Nat → Int, (∀ j, 0 ≤ O j ∧ O j < P f) ∧ IsNewt (P f) k (eS A) O ∧ wr.ownsRow w.heap.size 3 1 v k (xsF O k) ∧ Below w.heap.size w wr
theorem newt_start (p : Int) (A O : Nat → Int) : IsNewt p 0 (eS A) O := by
  intro i hi
  obtain rfl : i = 0 := by omega
  show (((0 : Nat) : Int) * eS A 0) % p = cv 0 (sgnS O) (eS A) % p
  rw [cv_ipar]
  show (((0 : Nat) : Int) * eS A 0) % p = (0 * eS A 0 + 0) % p
  simp
set_option maxRecDepth 100000 in
set_option maxHeartbeats 6400000 in
theorem sNewt_some (f : Int) (b off n cap : Nat) (A : Nat → Int) (w : World) (HT : Hid (∀ w2, Below w.heap.size w w2 → Calls Tryd.prog 35 #[.int .i64 f, .slice (some ⟨b, off, none⟩) n cap] w2 (SameB w2 true)))
    (hf : 0 ≤ f ∧ f ≤ 8) (hn : n ≤ 64) (hlt : b < w.heap.size) (hc : ∀ j, j < n → w.cell? ⟨b, off + j, none⟩ = some (.int .i64 (A j))) :
    Calls Tryd.prog 19 #[.int .i64 f, .slice (some ⟨b, off, none⟩) n cap] w fun e w' => ∃ v, e = .returned (.tuple #[v, .bool true]) ∧ NewtAt f A w w' v n := by
  have HC := Lib.hid hc
  have BA : Hid (∀ o, Below w.heap.size w (w.alloc o)) := Lib.hid fun o => (Below.refl _ _).alloc (Nat.le_refl _) o
  have HMU : Hid (∀ x y w, Calls Tryd.prog 41 #[.int .i64 f, .int .i64 x, .int .i64 y] w fun e w' => e = .returned (.int .i64 (RS (x * y) (P f))) ∧ w = w') := Lib.hid fun x y w => by have := sMul f x y w; rwa [mMul, if_pos hf] at this
  have HAU : Hid (∀ x y w, Calls Tryd.prog 33 #[.int .i64 f, .int .i64 x, .int .i64 y] w fun e w' => e = .returned (.int .i64 (RS (x + y) (P f))) ∧ w = w') := Lib.hid fun x y w => by have := sAdd f x y w; rwa [mAdd, if_pos hf] at this
  have HSU : Hid (∀ x y w, Calls Tryd.prog 44 #[.int .i64 f, .int .i64 x, .int .i64 y] w fun e w' => e = .returned (.int .i64 (RS (x - y) (P f))) ∧ w = w') := Lib.hid fun x y w => by have := sSub f x y w; rwa [mSub, if_pos hf] at this
  have hp := P_bd hf.1 hf.2
  have HST : Hid (∀ (O : Nat → Int) (k : Nat), IsNewt (P f) k (eS A) O → IsNewt (P f) (k + 1) (eS A) (more O k (RS ((-1) ^ k * (((k + 1 : Nat) : Int) * A k) + npar A O k k) (P f)))) := Lib.hid fun O k h => newt_more h
  have HBD : Hid (∀ x, 0 ≤ RS x (P f) ∧ RS x (P f) < P f) := Lib.hid fun x => RS_bd (by omega)
  have H1 : Hid (NewtAt f A w (w.alloc (.cells #[] 3)) (.slice (some ⟨w.heap.size, 0, none⟩) 0 0) 0) := Lib.hid ⟨fun _ => 0, fun _ => by show (0 : Int) ≤ 0 ∧ (0 : Int) < P f; omega, newt_start _ _ _, own_empty w _, BA.out _⟩
  obtain ⟨i0, hi, hz0, hz1, hz2⟩ := info_parts info3
  have HI := Lib.hid hi
  have HZ0 := Lib.hid hz0
  have HZ1 := Lib.hid hz1
  have HZ2 := Lib.hid hz2
  clear hi hz0 hz1 hz2 hc hf
  go_enter Tryd.func19, Tryd.ntmps19
  go_wp2_with fail
  refine (HT.out _ (BA.out _)).mono ?_
  rintro e w' ⟨rfl, rfl⟩
  clear HT
  go_wp2_with fail
  go_loopw [6, 7, 8, 9, 10] (fun v i _ _ _ wr => ∃ k : Nat, i = .int .i64 ((k + 1 : Nat) : Int) ∧ k ≤ n ∧ NewtAt f A w wr v k) (fun _ i _ _ _ _ => n + 1 - (intOf i).toNat)
  case atStart => exact ⟨0, rfl, Nat.zero_le _, H1.out⟩
  case round =>
    clear H1
    obtain ⟨k, rfl, hk, O, hO, hinv, hown, hnx⟩ := hrel
    have HO := Lib.hid hO
    have HINV := Lib.hid hinv
    clear hO hinv
    by_cases h1 : k < n
    · have hd1 : decide (((k + 1 : Nat) : Int) ≤ (n : Int)) = true := decide_eq_true (by omega)
      have hd1' : decide ((k : Int) + 1 ≤ (n : Int)) = true := decide_eq_true (by omega)
      have hs := hnx.size
      have HOWN := Lib.hid hown
      have d0 : wr.cell? ⟨b, off + k, none⟩ = some (.int .i64 (A k)) := (hnx.cell (p := ⟨b, off + k, none⟩) hlt).trans (HC.out k h1)
      have k9 : (0 : Int) ≤ (k : Int) + 1 := by omega
      have k8 : (k : Int) < n := by omega
      clear hown
      by_cases hpar : k % 2 = 0
      · have e1 : (((k : Int) + 1) % 2 == 0) = false := by rw [beq_eq_false_iff_ne]; omega
        have e1t : (((k : Int) + 1).tmod 2 == 0) = false := by rw [Int.tmod_eq_emod_of_nonneg k9]; exact e1
        have H0 : Hid (RS (((k + 1 : Nat) : Int) * A k) (P f) = RS ((-1) ^ k * (((k + 1 : Nat) : Int) * A k) + npar A O k 0) (P f)) := Lib.hid (by
          rw [pow_even hpar]
          show _ = RS (1 * (((k + 1 : Nat) : Int) * A k) + 0) (P f)
          congr 1
          omega)
        go_wp2_with fail
        refine (HMU.out _ _ wr).mono ?_
        rintro e w' ⟨rfl, rfl⟩
        go_wp2_with fail
        go_loopw [8, 9, 10] (fun s j _ wr2 => ∃ i : Nat, j = .int .i64 ((i + 1 : Nat) : Int) ∧ i ≤ k ∧ s = .int .i64 (RS ((-1) ^ k * (((k + 1 : Nat) : Int) * A k) + npar A O k i) (P f)) ∧ ∃ q, wr2 = wr.drewN q) (fun _ j _ _ => k + 1 - (intOf j).toNat)
        case atStart => exact ⟨0, rfl, Nat.zero_le _, vint H0.out, 0, rfl⟩
        case round =>
          clear H0 e1 e1t d0
          obtain ⟨i, rfl, hik, rfl, q, rfl⟩ := hrel
          have hbq := below_drewN hnx q
          have i9 : (0 : Int) ≤ (i : Int) + 1 := by omega
          by_cases h2 : i < k
          · have hd2 : decide (((i + 1 : Nat) : Int) < ((k + 1 : Nat) : Int)) = true := decide_eq_true (by omega)
            have hd3 : decide ((i : Int) + 1 < (k : Int) + 1) = true := decide_eq_true (by omega)
            obtain ⟨g, capo, rfl, hg, hov⟩ := OwnV.of_owns HOWN.out (show k ≠ 0 by omega)
            have HOV := Lib.hid hov
            clear hov
            have d1 : wr.cell? ⟨b, off + i, none⟩ = some (.int .i64 (A i)) := (hnx.cell (p := ⟨b, off + i, none⟩) hlt).trans (HC.out i (by omega))
            have d2 := HOV.out.cell (show k - 1 - i < k by omega)
            have q0 : IntKind.i64.wrap ((i : Int) + 1 - 1) = (i : Int) := by rw [show (i : Int) + 1 - 1 = i by omega]; exact IntWalk.i64_in _ (by omega)
            have q1 : IntKind.i64.wrap ((k : Int) + 1 - ((i : Int) + 1)) = (k : Int) - i := by rw [show (k : Int) + 1 - ((i : Int) + 1) = (k : Int) - i by omega]; exact IntWalk.i64_in _ (by omega)
            have q2 : IntKind.i64.wrap ((k : Int) - (i : Int)) = (k : Int) - i := IntWalk.i64_in _ (by omega)
            have q3 : IntKind.i64.wrap ((k : Int) - (i : Int) - 1) = (k : Int) - i - 1 := IntWalk.i64_in _ (by omega)
            have q4 : ((k : Int) - (i : Int) - 1).toNat = k - 1 - i := by omega
            have q5 : (0 : Int) ≤ (k : Int) - (i : Int) - 1 := by omega
            have q6 : (k : Int) - (i : Int) - 1 < k := by omega
            have q7 : (i : Int) < n := by omega
            have q8 : (1 : Int) ≤ (k : Int) - (i : Int) := by omega
            have HMk : Hid (∀ p2 x y, Calls Tryd.prog 41 #[.int .i64 f, .int .i64 x, .int .i64 y] (wr.drewN (q + p2)) fun e w' => e = .returned (.int .i64 (RS (x * y) (P f))) ∧ ∃ n, w' = wr.drewN (q + n)) := Lib.hid fun p2 x y => (HMU.out x y _).mono fun _ _ h => ⟨h.1, p2, h.2.symm⟩
            by_cases h3 : i % 2 = 0
            · have HS := Lib.hid (np_even (A := A) (O := O) (k := k) (d := (-1) ^ k * (((k + 1 : Nat) : Int) * A k)) (p := P f) h3)
              have e3 : (((i : Int) + 1) % 2 == 0) = false := by rw [beq_eq_false_iff_ne]; omega
              have e3t : (((i : Int) + 1).tmod 2 == 0) = false := by rw [Int.tmod_eq_emod_of_nonneg i9]; exact e3
              generalize RS ((-1) ^ k * (((k + 1 : Nat) : Int) * A k) + npar A O k i) (P f) = X at *
              go_wp2
              go_quiet ((go_at_call 41; exact HMk.out _ _ _))
              go_wp2_with fail
              refine (HAU.out _ _ _).mono ?_
              rintro e w' ⟨rfl, rfl⟩
              go_wp2
              go_roundw
              case rel => exact ⟨i + 1, by go_num, by omega, vint HS.out, _, rfl⟩
              case measure => simp [intOf]; omega
            · have HS := Lib.hid (np_odd (A := A) (O := O) (k := k) (d := (-1) ^ k * (((k + 1 : Nat) : Int) * A k)) (p := P f) (show i % 2 = 1 by omega))
              have e3 : (((i : Int) + 1) % 2 == 0) = true := by rw [beq_iff_eq]; omega
              have e3t : (((i : Int) + 1).tmod 2 == 0) = true := by rw [Int.tmod_eq_emod_of_nonneg i9]; exact e3
              generalize RS ((-1) ^ k * (((k + 1 : Nat) : Int) * A k) + npar A O k i) (P f) = X at *
              go_wp2
              go_quiet ((go_at_call 41; exact HMk.out _ _ _))
              go_wp2_with fail
              refine (HSU.out _ _ _).mono ?_
              rintro e w' ⟨rfl, rfl⟩
              go_wp2_with fail
              refine (HAU.out _ _ _).mono ?_
              rintro e w' ⟨rfl, rfl⟩
              go_wp2
              go_roundw
              case rel => exact ⟨i + 1, by go_num, by omega, vint HS.out, _, rfl⟩
              case measure => simp [intOf]; omega
          · have hd2 : decide (((i + 1 : Nat) : Int) < ((k + 1 : Nat) : Int)) = false := decide_eq_false (by omega)
            have hd3 : decide ((i : Int) + 1 < (k : Int) + 1) = false := decide_eq_false (by omega)
            obtain rfl : i = k := by omega
            have HST2 := Lib.hid (HST.out O i HINV.out)
            have hown : (wr.drewN q).ownsRow w.heap.size 3 1 _ i (xsF O i) := HOWN.out
            have hs2 := hbq.size
            have hx := HBD.out ((-1) ^ i * (((i + 1 : Nat) : Int) * A i) + npar A O i i)
            generalize RS ((-1) ^ i * (((i + 1 : Nat) : Int) * A i) + npar A O i i) (P f) = X at *
            go_wp2_with (at_builtin; refine wpList_append_own _ rfl _ _ 22 rfl w.heap.size 3 i0 (.int .i64 0) 1 8 Tryd.underlying22 HI.out HZ0.out HZ1.out HZ2.out rfl (by decide) _ _ _ rfl (hown.alloc _) ⟨(wr.drewN q).heap.size, 0, none⟩ 1 1 [.int .i64 X] rfl rfl ?e1 ?e2 ?e3 ?e4 ?e5 ?_)
            case e1 => exact cell_one_new _ _ _
            case e2 => intro u hu; simp at hu; subst hu; rfl
            case e3 => unfold maxLen; omega
            case e4 => omega
            case e5 => simp; omega
            intro v' w1 hown' hgrow _
            have hbel : Below w.heap.size w w1 := (hbq.alloc hs2 _).grown hgrow (by simp; omega) (own_ge hown)
            rw [xs_more O i X] at hown'
            have HREL : Hid (NewtAt f A w w1 v' (i + 1)) := Lib.hid ⟨_, more_bd HO.out hx, HST2.out, hown', hbel⟩
            clear hgrow hown hown' HST2 HOWN
            go_wp2
            go_roundw
            case rel => exact ⟨i + 1, by go_num, by omega, HREL.out⟩
            case measure => simp [intOf]; omega
      · have e1 : (((k : Int) + 1) % 2 == 0) = true := by rw [beq_iff_eq]; omega
        have e1t : (((k : Int) + 1).tmod 2 == 0) = true := by rw [Int.tmod_eq_emod_of_nonneg k9]; exact e1
        have H0 : Hid (RS (-RS (((k + 1 : Nat) : Int) * A k) (P f)) (P f) = RS ((-1) ^ k * (((k + 1 : Nat) : Int) * A k) + npar A O k 0) (P f)) := Lib.hid (by
          rw [pow_odd (show k % 2 = 1 by omega), rs_minus]
          show _ = RS (-1 * (((k + 1 : Nat) : Int) * A k) + 0) (P f)
          congr 1
          omega)
        go_wp2_with fail
        refine (HMU.out _ _ wr).mono ?_
        rintro e w' ⟨rfl, rfl⟩
        go_wp2_with fail
        refine (HSU.out _ _ wr).mono ?_
        rintro e w' ⟨rfl, rfl⟩
        go_wp2_with fail
        go_loopw [8, 9, 10] (fun s j _ wr2 => ∃ i : Nat, j = .int .i64 ((i + 1 : Nat) : Int) ∧ i ≤ k ∧ s = .int .i64 (RS ((-1) ^ k * (((k + 1 : Nat) : Int) * A k) + npar A O k i) (P f)) ∧ ∃ q, wr2 = wr.drewN q) (fun _ j _ _ => k + 1 - (intOf j).toNat)
        case atStart => exact ⟨0, rfl, Nat.zero_le _, vint H0.out, 0, rfl⟩
        case round =>
          clear H0 e1 e1t d0
          obtain ⟨i, rfl, hik, rfl, q, rfl⟩ := hrel
          have hbq := below_drewN hnx q
          have i9 : (0 : Int) ≤ (i : Int) + 1 := by omega
          by_cases h2 : i < k
          · have hd2 : decide (((i + 1 : Nat) : Int) < ((k + 1 : Nat) : Int)) = true := decide_eq_true (by omega)
            have hd3 : decide ((i : Int) + 1 < (k : Int) + 1) = true := decide_eq_true (by omega)
            obtain ⟨g, capo, rfl, hg, hov⟩ := OwnV.of_owns HOWN.out (show k ≠ 0 by omega)
            have HOV := Lib.hid hov
            clear hov
            have d1 : wr.cell? ⟨b, off + i, none⟩ = some (.int .i64 (A i)) := (hnx.cell (p := ⟨b, off + i, none⟩) hlt).trans (HC.out i (by omega))
            have d2 := HOV.out.cell (show k - 1 - i < k by omega)
            have q0 : IntKind.i64.wrap ((i : Int) + 1 - 1) = (i : Int) := by rw [show (i : Int) + 1 - 1 = i by omega]; exact IntWalk.i64_in _ (by omega)
            have q1 : IntKind.i64.wrap ((k : Int) + 1 - ((i : Int) + 1)) = (k : Int) - i := by rw [show (k : Int) + 1 - ((i : Int) + 1) = (k : Int) - i by omega]; exact IntWalk.i64_in _ (by omega)
            have q2 : IntKind.i64.wrap ((k : Int) - (i : Int)) = (k : Int) - i := IntWalk.i64_in _ (by omega)
            have q3 : IntKind.i64.wrap ((k : Int) - (i : Int) - 1) = (k : Int) - i - 1 := IntWalk.i64_in _ (by omega)
            have q4 : ((k : Int) - (i : Int) - 1).toNat = k - 1 - i := by omega
            have q5 : (0 : Int) ≤ (k : Int) - (i : Int) - 1 := by omega
            have q6 : (k : Int) - (i : Int) - 1 < k := by omega
            have q7 : (i : Int) < n := by omega
            have q8 : (1 : Int) ≤ (k : Int) - (i : Int) := by omega
            have HMk : Hid (∀ p2 x y, Calls Tryd.prog 41 #[.int .i64 f, .int .i64 x, .int .i64 y] (wr.drewN (q + p2)) fun e w' => e = .returned (.int .i64 (RS (x * y) (P f))) ∧ ∃ n, w' = wr.drewN (q + n)) := Lib.hid fun p2 x y => (HMU.out x y _).mono fun _ _ h => ⟨h.1, p2, h.2.symm⟩
            by_cases h3 : i % 2 = 0
            · have HS := Lib.hid (np_even (A := A) (O := O) (k := k) (d := (-1) ^ k * (((k + 1 : Nat) : Int) * A k)) (p := P f) h3)
              have e3 : (((i : Int) + 1) % 2 == 0) = false := by rw [beq_eq_false_iff_ne]; omega
              have e3t : (((i : Int) + 1).tmod 2 == 0) = false := by rw [Int.tmod_eq_emod_of_nonneg i9]; exact e3
              generalize RS ((-1) ^ k * (((k + 1 : Nat) : Int) * A k) + npar A O k i) (P f) = X at *
              go_wp2
              go_quiet ((go_at_call 41; exact HMk.out _ _ _))
              go_wp2_with fail
              refine (HAU.out _ _ _).mono ?_
              rintro e w' ⟨rfl, rfl⟩
              go_wp2
              go_roundw
              case rel => exact ⟨i + 1, by go_num, by omega, vint HS.out, _, rfl⟩
              case measure => simp [intOf]; omega
            · have HS := Lib.hid (np_odd (A := A) (O := O) (k := k) (d := (-1) ^ k * (((k + 1 : Nat) : Int) * A k)) (p := P f) (show i % 2 = 1 by omega))
              have e3 : (((i : Int) + 1) % 2 == 0) = true := by rw [beq_iff_eq]; omega
              have e3t : (((i : Int) + 1).tmod 2 == 0) = true := by rw [Int.tmod_eq_emod_of_nonneg i9]; exact e3
              generalize RS ((-1) ^ k * (((k + 1 : Nat) : Int) * A k) + npar A O k i) (P f) = X at *
              go_wp2
              go_quiet ((go_at_call 41; exact HMk.out _ _ _))
              go_wp2_with fail
              refine (HSU.out _ _ _).mono ?_
              rintro e w' ⟨rfl, rfl⟩
              go_wp2_with fail
              refine (HAU.out _ _ _).mono ?_
              rintro e w' ⟨rfl, rfl⟩
              go_wp2
              go_roundw
              case rel => exact ⟨i + 1, by go_num, by omega, vint HS.out, _, rfl⟩
              case measure => simp [intOf]; omega
          · have hd2 : decide (((i + 1 : Nat) : Int) < ((k + 1 : Nat) : Int)) = false := decide_eq_false (by omega)
            have hd3 : decide ((i : Int) + 1 < (k : Int) + 1) = false := decide_eq_false (by omega)
            obtain rfl : i = k := by omega
            have HST2 := Lib.hid (HST.out O i HINV.out)
            have hown : (wr.drewN q).ownsRow w.heap.size 3 1 _ i (xsF O i) := HOWN.out
            have hs2 := hbq.size
            have hx := HBD.out ((-1) ^ i * (((i + 1 : Nat) : Int) * A i) + npar A O i i)
            generalize RS ((-1) ^ i * (((i + 1 : Nat) : Int) * A i) + npar A O i i) (P f) = X at *
            go_wp2_with (at_builtin; refine wpList_append_own _ rfl _ _ 22 rfl w.heap.size 3 i0 (.int .i64 0) 1 8 Tryd.underlying22 HI.out HZ0.out HZ1.out HZ2.out rfl (by decide) _ _ _ rfl (hown.alloc _) ⟨(wr.drewN q).heap.size, 0, none⟩ 1 1 [.int .i64 X] rfl rfl ?e1 ?e2 ?e3 ?e4 ?e5 ?_)
            case e1 => exact cell_one_new _ _ _
            case e2 => intro u hu; simp at hu; subst hu; rfl
            case e3 => unfold maxLen; omega
            case e4 => omega
            case e5 => simp; omega
            intro v' w1 hown' hgrow _
            have hbel : Below w.heap.size w w1 := (hbq.alloc hs2 _).grown hgrow (by simp; omega) (own_ge hown)
            rw [xs_more O i X] at hown'
            have HREL : Hid (NewtAt f A w w1 v' (i + 1)) := Lib.hid ⟨_, more_bd HO.out hx, HST2.out, hown', hbel⟩
            clear hgrow hown hown' HST2 HOWN
            go_wp2
            go_roundw
            case rel => exact ⟨i + 1, by go_num, by omega, HREL.out⟩
            case measure => simp [intOf]; omega
    · have hd : decide (((k + 1 : Nat) : Int) ≤ (n : Int)) = false := decide_eq_false (by omega)
      have hd' : decide ((k : Int) + 1 ≤ (n : Int)) = false := decide_eq_false (by omega)
      obtain rfl : k = n := by omega
      have HREL : Hid (NewtAt f A w wr _ k) := Lib.hid ⟨O, HO.out, HINV.out, hown, hnx⟩
      clear hown
      go_wp2
      go_ret2
      exact ⟨_, rfl, HREL.out⟩
theorem newt_tab {p : Int} {n : Nat} {E O : Nat → Int} (h : IsNewt p n E O) : IsNewt p n E (lf (tab n O)) := by
  intro i hi
  have e : cv i (sgnS (lf (tab n O))) E = cv i (sgnS O) E := cv_congr (fun j hj => by
    unfold sgnS
    by_cases hz : j = 0
    · rw [if_pos hz, if_pos hz]
    · rw [if_neg hz, if_neg hz, lf_tab, if_pos (by omega)]) (fun _ _ => rfl)
  show thS E i % p = cv i (sgnS (lf (tab n O))) E % p
  rw [e]
  exact h i hi
theorem NewtAt.list {f : Int} {a : List Int} {w w' : World} {v : Value} (ha : SerOk f a) (h : NewtAt f (lf a) w w' v a.length) : ∃ x c, v = .slice x (newtL f a).length c ∧ Src w' x (newtL f a).length (lf (newtL f a)) ∧ Below w.heap.size w w' ∧ QNewt f a (newtL f a) := by
  obtain ⟨O, hO, hinv, hown, hb⟩ := h
  have hp := P_bd ha.1.1 ha.1.2
  have hq : QNewt f a (tab a.length O) := ⟨tab_ser (by omega) hO, newt_tab hinv⟩
  rw [newtL_eq ha hq]
  obtain ⟨x, c, hv, hS, hB⟩ := (owns_to (w := w) (l := tab a.length O) hown (tab_len _ _).symm (fun j hj => by rw [lf_tab, if_pos hj]) hb).list
  exact ⟨x, c, Ending.returned.inj hv, hS, hB, hq⟩
set_option maxRecDepth 100000 in
set_option maxHeartbeats 1600000 in
theorem sNewton (f : Int) (a : Option Addr) (l : List Int) (cap : Nat) (w : World) (hn : l.length ≤ 1048576) (hs : Src w a l.length (lf l)) : Calls Tryd.prog 19 #[.int .i64 f, .slice a l.length cap] w (ListLB w (mNewton0 f l) (mNewton1 f l)) := by
  have R : Hid (∀ w2, Below w.heap.size w w2 → Calls Tryd.prog 35 #[.int .i64 f, .slice a l.length cap] w2 (SameB w2 (mSeriesOk f l))) := Lib.hid fun w2 hb => sSeriesOk f a l cap w2 hn (hs.keep hb)
  by_cases h : SerOk f l
  · rw [show mNewton0 f l = newtL f l by unfold mNewton0; rw [if_pos h], show mNewton1 f l = true by unfold mNewton1; simp [h]]
    rw [sok_iff.2 h] at R
    have n1 := h.2.1
    rcases hs with hq | ⟨b, off, rfl, hlt, hc⟩
    · omega
    refine (sNewt_some f b off l.length cap (lf l) w R h.1 n1.2 hlt hc).mono fun e w' hp => ?_
    obtain ⟨v, rfl, hi⟩ := hp
    obtain ⟨x, c, rfl, hS, hB, hq⟩ := hi.list h
    exact ⟨x, c, rfl, hS, hB⟩
  · rw [show mNewton0 f l = [] by unfold mNewton0; rw [if_neg h], show mNewton1 f l = false by unfold mNewton1; simp [h]]
    rw [sok_not.2 h] at R
    have BA : Hid (∀ o, Below w.heap.size w (w.alloc o)) := Lib.hid fun o => (Below.refl _ _).alloc (Nat.le_refl _) o
    clear h hs
    go_enter Tryd.func19, Tryd.ntmps19
    go_wp2_with fail
    refine (R.out _ (BA.out _)).mono ?_
    rintro e w' ⟨rfl, rfl⟩
    go_wp2
    go_ret2
    exact ⟨none, 0, rfl, .inl rfl, BA.out _⟩
end Go.Proofs.YtmgggdibbhameabDoor
namespace Go.Proofs.YtmgggdibbhameabDoor
open Go.RowKit
theorem OwnV.grown {g : Nat} {w w' : World} {g2 n cap : Nat} {F : Nat → Int} (h : OwnV w g2 n cap F) (hg : w.grownBy w' (some g)) (hne : g2 ≠ g) : OwnV w' g2 n cap F := by
  obtain ⟨V, h1, h2, h3⟩ := h
  have hlt := OwnV.lt ⟨V, h1, h2, h3⟩
  exact ⟨V, World.rowIs.of_block h1 (hg.block g2 hlt (fun e => by injection e with e; exact hne e)), h2, h3⟩
/-- A drawn list, whose row may still be written. -/
def ZVal (g : Nat) (w : World) (n : Nat) (v : Value) (w' : World) : Prop := ∃ l : List Int, l.length ≤ n ∧ (∃ B, g < B ∧ w.heap.size ≤ B ∧ w'.ownsRow B 3 1 v l.length (xsF (lf l) l.length)) ∧ Cur g w' ∧ w.grownBy w' (some g)
theorem ZVal.of {g : Nat} {w w' : World} {n : Nat} {v : Value} (hB : g < w.heap.size) (h : ZAt g w w' v n) : ZVal g w n v w' := by
  obtain ⟨⟨F, ho⟩, hc, hg, hs⟩ := h
  exact ⟨tab n F, by rw [tab_len]; exact Nat.le_refl _, ⟨w.heap.size, hB, Nat.le_refl _, owns_to_tab ho⟩, hc, hg⟩
theorem ZVal.grown {g : Nat} {w w1 w2 : World} {n : Nat} {v : Value} (h : ZVal g w n v w1) (hg : w1.grownBy w2 (some g)) (hc : Cur g w2) : ZVal g w n v w2 := by
  obtain ⟨l, hl, ⟨B, hB, hB2, ho⟩, _, hg1⟩ := h
  exact ⟨l, hl, ⟨B, hB, hB2, ho.kept hg (zown_ne hB ho)⟩, hc, hg1.trans hg⟩
theorem ZVal.pol {g : Nat} {w w1 : World} {n : Nat} {v : Value} (h : ZVal g w n v w1) : ZPol g w n (.returned v) w1 := by
  obtain ⟨l, hl, ⟨B, hB, hB2, ho⟩, hc, hg⟩ := h
  obtain ⟨a, cap, rfl, hcap, hs⟩ := SrcO.of ho hB
  exact ⟨l, a, cap, rfl, hl, hcap, hs, hc, hg⟩
/-- The value is a slice: empty, or a row that can be written. -/
theorem ZVal.cases {g : Nat} {w w1 : World} {n : Nat} {v : Value} (h : ZVal g w n v w1) : ∃ (l : List Int) (a : Option Addr) (cap : Nat), v = .slice a l.length cap ∧ l.length ≤ n ∧ (l.length = 0 ∨ ∃ g2, a = some ⟨g2, 0, none⟩ ∧ g2 ≠ g ∧ w.heap.size ≤ g2 ∧ OwnV w1 g2 l.length cap (lf l)) := by
  obtain ⟨l, hl, ⟨B, hB, hB2, ho⟩, hc, hg⟩ := h
  by_cases hz : l.length = 0
  · obtain ⟨a, cap, rfl, hcap, hs⟩ := SrcO.of ho hB
    exact ⟨l, a, cap, rfl, hl, .inl hz⟩
  · obtain ⟨g2, cap, rfl, hg2, ho2⟩ := OwnV.of_owns ho hz
    exact ⟨l, _, cap, rfl, hl, .inr ⟨g2, rfl, by omega, by omega, ho2⟩⟩
end Go.Proofs.YtmgggdibbhameabDoor
namespace Go.Proofs.YtmgggdibbhameabDoor
open Go.RowKit
/-- A byte of the code, or a number below 256. -/
theorem byteAt_c (a : Option Addr) (len cap i : Nat) (w : World) (hl : len ≤ 1048576) (hi : i ≤ 1000) (hc : Code w a len) : Calls Tryd.prog 36 #[.slice a len cap, .int .i64 i] w fun e w' => ∃ x : Int, e = .returned (.int .i64 x) ∧ 0 ≤ x ∧ x < 256 ∧ w = w' := by
  by_cases h : i < len
  · have hd : decide ((i : Int) < len) = true := decide_eq_true (by omega)
    rcases hc.2 with hz | ⟨b, off, rfl, hne, hlt, hb⟩
    · omega
    · obtain ⟨n, n0, n1, hcell⟩ := hb i h
      go_enter Tryd.func36, Tryd.ntmps36
      go_wp2
      go_ret
      exact ⟨n, rfl, n0, n1, rfl⟩
  · have hd : decide ((i : Int) < len) = false := decide_eq_false (by omega)
    go_enter Tryd.func36, Tryd.ntmps36
    go_wp2
    go_ret
    exact ⟨_, rfl, by omega, by omega, rfl⟩
end Go.Proofs.YtmgggdibbhameabDoor
namespace Go.Proofs.YtmgggdibbhameabDoor
open Go.RowKit
/-- A row that was drawn. -/
def SK (g : Nat) (w W : World) (g2 n cap : Nat) : Prop := (∃ F : Nat → Int, OwnV W g2 n cap F) ∧ g2 ≠ g ∧ w.heap.size ≤ g2 ∧ Cur g W ∧ w.grownBy W (some g)
theorem SK.grown {g : Nat} {w W W' : World} {g2 n cap : Nat} (h : SK g w W g2 n cap) (hg : W.grownBy W' (some g)) (hc : Cur g W') : SK g w W' g2 n cap := by
  obtain ⟨⟨F, ho⟩, hne, h2, _, hw⟩ := h
  exact ⟨⟨F, ho.grown hg hne⟩, hne, h2, hc, hw.trans hg⟩
theorem SK.put {g : Nat} {w W : World} {g2 n cap k : Nat} {y : Int} (h : SK g w W g2 n cap) (hB : g < w.heap.size) : SK g w (W.setCell ⟨g2, k, none⟩ (.int .i64 y)) g2 n cap := by
  obtain ⟨⟨F, ho⟩, hne, h2, hc, hw⟩ := h
  have hset : W.grownBy (W.setCell ⟨g2, k, none⟩ (.int .i64 y)) (some g2) := grown_set (World.grownBy.refl _ _) _ _
  exact ⟨⟨upd F k y, ho.set⟩, hne, h2, hc.other hset (fun r hr => by injection hr with hr; omega), grown_new hw hset (fun r hr => by injection hr with hr; omega)⟩
/-- A list in a row that may be written, from block B on. -/
def WrB (W : World) (B : Nat) (a : Option Addr) (l : List Int) (cap : Nat) : Prop := l.length = 0 ∨ ∃ g2, a = some ⟨g2, 0, none⟩ ∧ B ≤ g2 ∧ OwnV W g2 l.length cap (lf l)
def WrG (W : World) (B g : Nat) (a : Option Addr) (l : List Int) (cap : Nat) : Prop := l.length = 0 ∨ ∃ g2, a = some ⟨g2, 0, none⟩ ∧ g2 ≠ g ∧ B ≤ g2 ∧ OwnV W g2 l.length cap (lf l)
theorem WrG.wr {W : World} {B g : Nat} {a : Option Addr} {l : List Int} {cap : Nat} (h : WrG W B g a l cap) : WrB W B a l cap := by
  rcases h with h | ⟨g2, h1, _, h2, h3⟩
  · exact .inl h
  · exact .inr ⟨g2, h1, h2, h3⟩
theorem WrG.grown {W W' : World} {B g : Nat} {a : Option Addr} {l : List Int} {cap : Nat} (h : WrG W B g a l cap) (hg : W.grownBy W' (some g)) : WrG W' B g a l cap := by
  rcases h with h | ⟨g2, h1, hne, h2, h3⟩
  · exact .inl h
  · exact .inr ⟨g2, h1, hne, h2, h3.grown hg hne⟩
theorem WrB.src {W : World} {B : Nat} {a : Option Addr} {l : List Int} {cap : Nat} (h : WrB W B a l cap) : Src W a l.length (lf l) := by
  rcases h with h | ⟨g2, rfl, _, h3⟩
  · exact .inl h
  · exact h3.src
theorem WrB.keep {W W' : World} {B : Nat} {a : Option Addr} {l : List Int} {cap : Nat} (h : WrB W B a l cap) (hb : Below W.heap.size W W') : WrB W' B a l cap := by
  rcases h with h | ⟨g2, h1, h2, h3⟩
  · exact .inl h
  · exact .inr ⟨g2, h1, h2, h3.keep hb⟩
def ZW (g : Nat) (w : World) (n : Nat) (e : Ending) (w' : World) : Prop := ∃ (l : List Int) (a : Option Addr) (cap : Nat), e = .returned (.slice a l.length cap) ∧ l.length = n ∧ WrG w' w.heap.size g a l cap ∧ Cur g w' ∧ w.grownBy w' (some g)
theorem SK.pol {g : Nat} {w W : World} {g2 n cap : Nat} (h : SK g w W g2 n cap) : ZW g w n (.returned (.slice (some ⟨g2, 0, none⟩) n cap)) W := by
  obtain ⟨⟨F, ho⟩, hne, h2, hc, hw⟩ := h
  refine ⟨tab n F, some ⟨g2, 0, none⟩, cap, by rw [tab_len], tab_len _ _, .inr ⟨g2, rfl, hne, h2, ?_⟩, hc, hw⟩
  rw [tab_len]
  exact ho.congr fun j hj => by rw [lf_tab, if_pos hj]
theorem zw_none {g : Nat} {w W W' : World} {v : Value} {F : Nat → Int} (hB : g < w.heap.size) (hown : W.ownsRow w.heap.size 3 1 v 0 (xsF F 0)) (hw : w.grownBy W (some g)) (hg : W.grownBy W' (some g)) (hc : Cur g W') : ZW g w 0 (.returned v) W' := by
  obtain ⟨a, cap, rfl, _, _⟩ := SrcO.of hown hB
  exact ⟨[], a, cap, rfl, rfl, .inl rfl, hc, hw.trans hg⟩
set_option maxRecDepth 100000 in
set_option maxHeartbeats 3200000 in
theorem drawSeries_c (g : Nat) (f : Int) (n : Nat) (first : Int) (w : World) (hc : Cur g w) (hn : n ≤ 1000) : Calls Tryd.prog 65 #[.pointer (some ⟨g, 0, none⟩), .int .i64 f, .int .i64 n, .int .i64 first] w (ZW g w n) := by
  have hB : g < w.heap.size := hc.lt
  have HMO := Lib.hid (sModulus f)
  generalize P f = MM at *
  go_enter Tryd.func65, Tryd.ntmps65
  go_wp2_with fail
  refine (drawList_c g f n w hc (by omega)).mono ?_
  rintro e W ⟨v, rfl, hz⟩
  obtain ⟨⟨F, hown⟩, hcur, hbel, hsz⟩ := hz
  by_cases hk0 : n = 0
  · subst hk0
    have HZ : Hid (∀ W', W.grownBy W' (some g) → Cur g W' → ZW g w 0 (.returned v) W') := Lib.hid fun W' h1 h2 => zw_none hB hown hbel h1 h2
    clear hown hbel
    by_cases hfi : 0 ≤ first
    · have df : decide (0 ≤ first) = true := decide_eq_true hfi
      go_wp2_with fail
      refine (once_c g 20 W hcur (by omega) (by omega)).mono ?_
      rintro e w1 ⟨b1, rfl, g1, c1⟩
      have HP := Lib.hid (HZ.out w1 g1 c1)
      clear HZ g1 hcur
      cases b1
      · go_wp2
        go_ret
        exact HP.out
      · go_wp2
        go_ret
        exact HP.out
    · have df : decide (0 ≤ first) = false := decide_eq_false hfi
      go_wp2_with fail
      refine (once_c g 20 W hcur (by omega) (by omega)).mono ?_
      rintro e w1 ⟨b1, rfl, g1, c1⟩
      have HP := Lib.hid (HZ.out w1 g1 c1)
      clear HZ g1 hcur
      cases b1
      · go_wp2
        go_ret
        exact HP.out
      · go_wp2
        go_ret
        exact HP.out
  · obtain ⟨g2, cap2, rfl, hg2, ho2⟩ := OwnV.of_owns hown hk0
    have hne : g2 ≠ g := by omega
    have dk : decide ((0 : Int) < n) = true := decide_eq_true (by omega)
    have n0 : (0 : Int) < n := by omega
    have n0' : 0 < n := by omega
    have HSK0 : Hid (SK g w W g2 n cap2) := Lib.hid ⟨⟨F, ho2⟩, hne, hg2, hcur, hbel⟩
    have cc0 := ho2.cell n0'
    have fr0 := ho2.frozen 0
    clear hown hbel hc hcur ho2
    by_cases hfi : 0 ≤ first
    · have df : decide (0 ≤ first) = true := decide_eq_true hfi
      have HSK := Lib.hid (HSK0.out.put (k := 0) (y := first) hB)
      clear HSK0
      go_wp2_with fail
      generalize W.setCell ⟨g2, 0, none⟩ (.int .i64 first) = W at *
      refine (once_c g 20 W HSK.out.2.2.2.1 (by omega) (by omega)).mono ?_
      rintro e w1 ⟨b1, rfl, g1, c1⟩
      have HS2 := Lib.hid (HSK.out.grown g1 c1)
      clear HSK g1
      cases b1
      · have HP := Lib.hid HS2.out.pol
        clear HS2
        go_wp2
        go_ret
        exact HP.out
      · go_wp2_with fail
        refine (below_c g n w1 c1 (by omega) (by omega)).mono ?_
        rintro e w2 ⟨t, ⟨t0, t1⟩, rfl, g4, c2⟩
        obtain ⟨t, rfl⟩ := Int.eq_ofNat_of_zero_le t0
        have HS3 := Lib.hid (HS2.out.grown g4 c2)
        clear HS2 g4 c1
        go_wp2_with fail
        refine (HMO.out w2).mono ?_
        rintro e w' ⟨rfl, rfl⟩
        go_wp2_with fail
        refine (pick_c (fun _ => True) g w2.heap.size 4 4 _ (c2.alloc _) (by omega) (by omega) (ints_alloc (fun _ => True) c2.lt #[.int .i64 (-1), .int .i64 MM, .int .i64 0, .int .i64 1] 3 (fun j hj => by
          have h3 : j = 0 ∨ j = 1 ∨ j = 2 ∨ j = 3 := by have : j < 4 := hj; omega
          rcases h3 with rfl | rfl | rfl | rfl <;> exact ⟨_, rfl, trivial⟩))).mono ?_
        rintro e w10 ⟨y, _, rfl, g10, c10⟩
        have HS4 := Lib.hid (HS3.out.grown ((World.grownBy_alloc w2 _ (some g)).trans g10) c10)
        have HF := Lib.hid (HS4.out.put (k := t) (y := y) hB).pol
        obtain ⟨⟨F4, ho4⟩, _⟩ := HS4.out
        have cc := ho4.cell (show t < n by omega)
        have fr := ho4.frozen t
        have tn : (t : Int) < (n : Int) := t1
        clear HS3 HS4 g10 ho4
        go_wp2
        go_ret
        exact HF.out
    · have df : decide (0 ≤ first) = false := decide_eq_false hfi
      have HSK := HSK0
      clear HSK0
      go_wp2_with fail
      refine (once_c g 20 W HSK.out.2.2.2.1 (by omega) (by omega)).mono ?_
      rintro e w1 ⟨b1, rfl, g1, c1⟩
      have HS2 := Lib.hid (HSK.out.grown g1 c1)
      clear HSK g1
      cases b1
      · have HP := Lib.hid HS2.out.pol
        clear HS2
        go_wp2
        go_ret
        exact HP.out
      · go_wp2_with fail
        refine (below_c g n w1 c1 (by omega) (by omega)).mono ?_
        rintro e w2 ⟨t, ⟨t0, t1⟩, rfl, g4, c2⟩
        obtain ⟨t, rfl⟩ := Int.eq_ofNat_of_zero_le t0
        have HS3 := Lib.hid (HS2.out.grown g4 c2)
        clear HS2 g4 c1
        go_wp2_with fail
        refine (HMO.out w2).mono ?_
        rintro e w' ⟨rfl, rfl⟩
        go_wp2_with fail
        refine (pick_c (fun _ => True) g w2.heap.size 4 4 _ (c2.alloc _) (by omega) (by omega) (ints_alloc (fun _ => True) c2.lt #[.int .i64 (-1), .int .i64 MM, .int .i64 0, .int .i64 1] 3 (fun j hj => by
          have h3 : j = 0 ∨ j = 1 ∨ j = 2 ∨ j = 3 := by have : j < 4 := hj; omega
          rcases h3 with rfl | rfl | rfl | rfl <;> exact ⟨_, rfl, trivial⟩))).mono ?_
        rintro e w10 ⟨y, _, rfl, g10, c10⟩
        have HS4 := Lib.hid (HS3.out.grown ((World.grownBy_alloc w2 _ (some g)).trans g10) c10)
        have HF := Lib.hid (HS4.out.put (k := t) (y := y) hB).pol
        obtain ⟨⟨F4, ho4⟩, _⟩ := HS4.out
        have cc := ho4.cell (show t < n by omega)
        have fr := ho4.frozen t
        have tn : (t : Int) < (n : Int) := t1
        clear HS3 HS4 g10 ho4
        go_wp2
        go_ret
        exact HF.out
theorem sizeB_c (a : Option Addr) (len cap : Nat) (m : Int) (w : World) (hl : len ≤ 1099511627776) (m0 : 1 ≤ m) (m1 : m ≤ 1000) : Calls Tryd.prog 87 #[.slice a len cap, .int .i64 m] w (SizeM m w) := by
  by_cases h : m < 2 + (len : Int) / 16
  · go_enter Tryd.func87, Tryd.ntmps87
    go_wp2
    go_ret
    exact ⟨m, rfl, by omega, by omega, rfl⟩
  · go_enter Tryd.func87, Tryd.ntmps87
    go_wp2
    go_ret
    exact ⟨_, rfl, by omega, by omega, rfl⟩
set_option maxRecDepth 100000 in
set_option maxHeartbeats 3200000 in
theorem drawLength_c (g : Nat) (f : Int) (a : Option Addr) (len cap : Nat) (w : World) (hc : Cur g w) (hl : len ≤ 1099511627776) : Calls Tryd.prog 63 #[.pointer (some ⟨g, 0, none⟩), .int .i64 f, .slice a len cap] w (DrawInt g w (fun n => 0 ≤ n ∧ n ≤ 65)) := by
  have HEND : Hid (∀ (W : World) (n : Int), 0 ≤ n ∧ n ≤ 65 → w.grownBy W (some g) → Cur g W → DrawInt g w (fun n => 0 ≤ n ∧ n ≤ 65) (.returned (.int .i64 n)) W) := Lib.hid fun W n h1 h2 h3 => ⟨n, h1, rfl, h2, h3⟩
  go_enter Tryd.func63, Tryd.ntmps63
  go_wp2_with fail
  refine (sizeB_c a len cap 40 w hl (by omega) (by omega)).mono ?_
  rintro e w' ⟨r, rfl, r0, r1, rfl⟩
  go_wp2_with fail
  refine (below_c g r w hc (by omega) (by omega)).mono ?_
  rintro e w1 ⟨x1, ⟨p1, q1⟩, rfl, g1, c1⟩
  by_cases hf : f = 0
  · subst hf
    go_wp2_with fail
    refine (once_c g 6 w1 c1 (by omega) (by omega)).mono ?_
    rintro e w2 ⟨b2, rfl, g2, c2⟩
    have G2 := g1.trans g2
    clear g1 g2
    cases b2
    · by_cases hx : 17 < 1 + x1
      · have dx : decide (17 < 1 + x1) = true := decide_eq_true hx
        go_wp2_with fail
        refine (once_c g 20 w2 c2 (by omega) (by omega)).mono ?_
        rintro e w8 ⟨b8, rfl, g8, c8⟩
        have G8 := G2.trans g8
        clear g8
        cases b8
        · have HP := Lib.hid (HEND.out w8 (17) (by omega) G8 c8)
          clear G8
          go_wp2
          go_ret
          exact HP.out
        · go_wp2_with fail
          refine (pick_c (fun n => 0 ≤ n ∧ n ≤ 65) g w8.heap.size 6 6 _ (c8.alloc _) (by omega) (by omega) (ints_alloc (fun n => 0 ≤ n ∧ n ≤ 65) c8.lt #[.int .i64 0, .int .i64 1, .int .i64 17, .int .i64 18, .int .i64 64, .int .i64 65] 3 (fun j hj => by
            have h3 : j = 0 ∨ j = 1 ∨ j = 2 ∨ j = 3 ∨ j = 4 ∨ j = 5 := by have : j < 6 := hj; omega
            rcases h3 with rfl | rfl | rfl | rfl | rfl | rfl <;> exact ⟨_, rfl, by omega⟩))).mono ?_
          rintro e w9 ⟨y, hy, rfl, g9, c9⟩
          have HP := Lib.hid (HEND.out w9 y hy (G8.trans ((World.grownBy_alloc w8 _ (some g)).trans g9)) c9)
          clear G8 g9
          go_wp2
          go_ret
          exact HP.out
      · have dx : decide (17 < 1 + x1) = false := decide_eq_false hx
        go_wp2_with fail
        refine (once_c g 20 w2 c2 (by omega) (by omega)).mono ?_
        rintro e w8 ⟨b8, rfl, g8, c8⟩
        have G8 := G2.trans g8
        clear g8
        cases b8
        · have HP := Lib.hid (HEND.out w8 (1 + x1) (by omega) G8 c8)
          clear G8
          go_wp2
          go_ret
          exact HP.out
        · go_wp2_with fail
          refine (pick_c (fun n => 0 ≤ n ∧ n ≤ 65) g w8.heap.size 6 6 _ (c8.alloc _) (by omega) (by omega) (ints_alloc (fun n => 0 ≤ n ∧ n ≤ 65) c8.lt #[.int .i64 0, .int .i64 1, .int .i64 17, .int .i64 18, .int .i64 64, .int .i64 65] 3 (fun j hj => by
            have h3 : j = 0 ∨ j = 1 ∨ j = 2 ∨ j = 3 ∨ j = 4 ∨ j = 5 := by have : j < 6 := hj; omega
            rcases h3 with rfl | rfl | rfl | rfl | rfl | rfl <;> exact ⟨_, rfl, by omega⟩))).mono ?_
          rintro e w9 ⟨y, hy, rfl, g9, c9⟩
          have HP := Lib.hid (HEND.out w9 y hy (G8.trans ((World.grownBy_alloc w8 _ (some g)).trans g9)) c9)
          clear G8 g9
          go_wp2
          go_ret
          exact HP.out
    · have G3 := G2
      go_wp2_with fail
      refine (once_c g 20 w2 c2 (by omega) (by omega)).mono ?_
      rintro e w8 ⟨b8, rfl, g8, c8⟩
      have G8 := G3.trans g8
      clear g8
      cases b8
      · have HP := Lib.hid (HEND.out w8 (1 + x1) (by omega) G8 c8)
        clear G8
        go_wp2
        go_ret
        exact HP.out
      · go_wp2_with fail
        refine (pick_c (fun n => 0 ≤ n ∧ n ≤ 65) g w8.heap.size 6 6 _ (c8.alloc _) (by omega) (by omega) (ints_alloc (fun n => 0 ≤ n ∧ n ≤ 65) c8.lt #[.int .i64 0, .int .i64 1, .int .i64 17, .int .i64 18, .int .i64 64, .int .i64 65] 3 (fun j hj => by
          have h3 : j = 0 ∨ j = 1 ∨ j = 2 ∨ j = 3 ∨ j = 4 ∨ j = 5 := by have : j < 6 := hj; omega
          rcases h3 with rfl | rfl | rfl | rfl | rfl | rfl <;> exact ⟨_, rfl, by omega⟩))).mono ?_
        rintro e w9 ⟨y, hy, rfl, g9, c9⟩
        have HP := Lib.hid (HEND.out w9 y hy (G8.trans ((World.grownBy_alloc w8 _ (some g)).trans g9)) c9)
        clear G8 g9
        go_wp2
        go_ret
        exact HP.out
  · have dz : (f == 0) = false := by rw [beq_eq_false_iff_ne]; exact hf
    go_wp2_with fail
    refine (once_c g 20 w1 c1 (by omega) (by omega)).mono ?_
    rintro e w8 ⟨b8, rfl, g8, c8⟩
    have G8 := g1.trans g8
    clear g8
    cases b8
    · have HP := Lib.hid (HEND.out w8 (1 + x1) (by omega) G8 c8)
      clear G8
      go_wp2
      go_ret
      exact HP.out
    · go_wp2_with fail
      refine (pick_c (fun n => 0 ≤ n ∧ n ≤ 65) g w8.heap.size 6 6 _ (c8.alloc _) (by omega) (by omega) (ints_alloc (fun n => 0 ≤ n ∧ n ≤ 65) c8.lt #[.int .i64 0, .int .i64 1, .int .i64 17, .int .i64 18, .int .i64 64, .int .i64 65] 3 (fun j hj => by
        have h3 : j = 0 ∨ j = 1 ∨ j = 2 ∨ j = 3 ∨ j = 4 ∨ j = 5 := by have : j < 6 := hj; omega
        rcases h3 with rfl | rfl | rfl | rfl | rfl | rfl <;> exact ⟨_, rfl, by omega⟩))).mono ?_
      rintro e w9 ⟨y, hy, rfl, g9, c9⟩
      have HP := Lib.hid (HEND.out w9 y hy (G8.trans ((World.grownBy_alloc w8 _ (some g)).trans g9)) c9)
      clear G8 g9
      go_wp2
      go_ret
      exact HP.out
end Go.Proofs.YtmgggdibbhameabDoor
namespace Go.Proofs.YtmgggdibbhameabDoor
open Go.RowKit
theorem drawSeriesI_c (g : Nat) (f x first : Int) (w : World) (hc : Cur g w) (x0 : 0 ≤ x) (x1 : x ≤ 1000) : Calls Tryd.prog 65 #[.pointer (some ⟨g, 0, none⟩), .int .i64 f, .int .i64 x, .int .i64 first] w (ZW g w x.toNat) := by
  obtain ⟨n, rfl⟩ := Int.eq_ofNat_of_zero_le x0
  exact drawSeries_c g f n first w hc (by omega)
def D1W (w : World) (e : Ending) (w' : World) : Prop := ∃ (f : Int) (a : Option Addr) (l : List Int) (cap : Nat), e = .returned (.tuple #[.int .i64 f, .slice a l.length cap]) ∧ l.length ≤ 66 ∧ WrB w' w.heap.size a l cap ∧ Below w.heap.size w w'
set_option maxRecDepth 100000 in
set_option maxHeartbeats 1600000 in
theorem drawOne6_c (a : Option Addr) (len cap : Nat) (first : Int) (w : World) (hc : Code w a len) : Calls Tryd.prog 53 #[.slice a len cap, .int .i64 first] w (D1W w) := by
  have hl := hc.1
  go_enter Tryd.func53, Tryd.ntmps53
  go_wp2_with fail
  refine (new_c a len cap w hc).mono ?_
  rintro e w1 ⟨rfl, b1, c1⟩
  go_wp2_with fail
  refine (field_c w.heap.size w1 c1).mono ?_
  rintro e w2 ⟨f, _, rfl, g2, c2⟩
  have b2 := below_of_grown b1 g2
  clear b1 g2 c1 hc
  go_wp2_with fail
  refine (drawLength_c w.heap.size f a len cap w2 c2 hl).mono ?_
  rintro e w3 ⟨x, ⟨x0, x1⟩, rfl, g3, c3⟩
  have b3 := below_of_grown b2 g3
  clear b2 g3 c2
  go_wp2_with fail
  refine (drawSeriesI_c w.heap.size f x first w3 c3 x0 (by omega)).mono ?_
  rintro e w5 ⟨l, a5, cap5, rfl, hl5, s5, c5, g5⟩
  have b5 := below_of_grown b3 g5
  have hsz := b3.size
  have HS5 : Hid (WrB w5 w.heap.size a5 l cap5) := Lib.hid (by
    rcases s5.wr with h | ⟨q, h1, h2, h3⟩
    · exact .inl h
    · exact .inr ⟨q, h1, Nat.le_trans hsz h2, h3⟩)
  have hl6 : l.length ≤ 66 := by omega
  clear s5 g5 b3 c3 c5 hl5
  go_wp2
  go_ret2
  exact ⟨f, a5, l, cap5, rfl, hl6, HS5.out, b5⟩
theorem drawSeriesOk_c (a : Option Addr) (len cap : Nat) (w : World) (hc : Code w a len) : Calls Tryd.prog 40 #[.slice a len cap] w (D1W w) := by
  go_enter Tryd.func40, Tryd.ntmps40
  go_wp2_with fail
  refine (drawOne6_c a len cap (-1) w hc).mono ?_
  rintro e w1 ⟨f, a1, l, cap1, rfl, h1, s1, b1⟩
  have HS1 := Lib.hid s1
  clear s1
  go_wp2
  go_ret2
  exact ⟨f, a1, l, cap1, rfl, h1, HS1.out, b1⟩
theorem drawSeriesLog_c (a : Option Addr) (len cap : Nat) (w : World) (hc : Code w a len) : Calls Tryd.prog 22 #[.slice a len cap] w (D1W w) := by
  go_enter Tryd.func22, Tryd.ntmps22
  go_wp2_with fail
  refine (drawOne6_c a len cap (1) w hc).mono ?_
  rintro e w1 ⟨f, a1, l, cap1, rfl, h1, s1, b1⟩
  have HS1 := Lib.hid s1
  clear s1
  go_wp2
  go_ret2
  exact ⟨f, a1, l, cap1, rfl, h1, HS1.out, b1⟩
theorem drawSeriesExp_c (a : Option Addr) (len cap : Nat) (w : World) (hc : Code w a len) : Calls Tryd.prog 23 #[.slice a len cap] w (D1W w) := by
  go_enter Tryd.func23, Tryd.ntmps23
  go_wp2_with fail
  refine (drawOne6_c a len cap (0) w hc).mono ?_
  rintro e w1 ⟨f, a1, l, cap1, rfl, h1, s1, b1⟩
  have HS1 := Lib.hid s1
  clear s1
  go_wp2
  go_ret2
  exact ⟨f, a1, l, cap1, rfl, h1, HS1.out, b1⟩
end Go.Proofs.YtmgggdibbhameabDoor
namespace Go.Proofs.YtmgggdibbhameabDoor
open Go.RowKit
def D2W (w : World) (e : Ending) (w' : World) : Prop := ∃ (f : Int) (a : Option Addr) (l : List Int) (cap : Nat) (a2 : Option Addr) (m : List Int) (cap2 B : Nat), e = .returned (.tuple #[.int .i64 f, .slice a l.length cap, .slice a2 m.length cap2]) ∧ l.length ≤ 66 ∧ m.length ≤ 66 ∧ WrB w' w.heap.size a l cap ∧ (l.length = 0 ∨ ∃ g2, a = some ⟨g2, 0, none⟩ ∧ g2 < B) ∧ w.heap.size ≤ B ∧ WrB w' B a2 m cap2 ∧ Below w.heap.size w w'
theorem two_end {w w3 w4 w5 : World} {f : Int} {a a2 : Option Addr} {l m : List Int} {cap cap2 : Nat} (b3 : Below w.heap.size w w3) (hl : l.length ≤ 66) (hm : m.length ≤ 66) (s4 : WrG w4 w3.heap.size w.heap.size a l cap) (g4 : w3.grownBy w4 (some w.heap.size)) (s5 : WrG w5 w4.heap.size w.heap.size a2 m cap2) (g5 : w4.grownBy w5 (some w.heap.size)) : D2W w (.returned (.tuple #[.int .i64 f, .slice a l.length cap, .slice a2 m.length cap2])) w5 := by
  have hsz := b3.size
  have hs4 := g4.size
  refine ⟨f, a, l, cap, a2, m, cap2, w4.heap.size, rfl, hl, hm, ?_, ?_, by omega, s5.wr, below_of_grown b3 (g4.trans g5)⟩
  · rcases s4.grown g5 with h | ⟨q, h1, _, h2, h3⟩
    · exact .inl h
    · exact .inr ⟨q, h1, Nat.le_trans hsz h2, h3⟩
  · rcases s4 with h | ⟨q, h1, _, _, h3⟩
    · exact .inl h
    · exact .inr ⟨q, h1, h3.lt⟩
set_option maxRecDepth 100000 in
set_option maxHeartbeats 1600000 in
theorem drawSeriesMul_c (a : Option Addr) (len cap : Nat) (w : World) (hc : Code w a len) : Calls Tryd.prog 31 #[.slice a len cap] w (D2W w) := by
  have hl := hc.1
  go_enter Tryd.func31, Tryd.ntmps31
  go_wp2_with fail
  refine (new_c a len cap w hc).mono ?_
  rintro e w1 ⟨rfl, b1, c1⟩
  go_wp2_with fail
  refine (field_c w.heap.size w1 c1).mono ?_
  rintro e w2 ⟨f, _, rfl, g2, c2⟩
  have b2 := below_of_grown b1 g2
  clear b1 g2 c1 hc
  go_wp2_with fail
  refine (drawLength_c w.heap.size f a len cap w2 c2 hl).mono ?_
  rintro e w3 ⟨x, ⟨x0, x1⟩, rfl, g3, c3⟩
  have b3 := below_of_grown b2 g3
  clear b2 g3 c2
  go_wp2_with fail
  refine (once_c w.heap.size 12 w3 c3 (by omega) (by omega)).mono ?_
  rintro e w4 ⟨bb, rfl, g4, c4⟩
  cases bb
  · have G3 := below_of_grown b3 g4
    clear b3 g4 c3
    go_wp2_with fail
    refine (drawSeriesI_c w.heap.size f x (-1) w4 c4 x0 (by omega)).mono ?_
    rintro e w5 ⟨l, a5, cap5, rfl, hl5, s5, c5, g5⟩
    have hl6 : l.length ≤ 66 := by omega
    clear hl5 c4
    go_wp2_with fail
    refine (drawSeriesI_c w.heap.size f (x) (-1) w5 c5 (by omega) (by omega)).mono ?_
    rintro e w6 ⟨m, a6, cap6, rfl, hm6, s6, c6, g6⟩
    have hm7 : m.length ≤ 66 := by omega
    have HE : Hid (D2W w (.returned (.tuple #[.int .i64 f, .slice a5 l.length cap5, .slice a6 m.length cap6])) w6) := Lib.hid (two_end G3 hl6 hm7 s5 g5 s6 g6)
    clear hm6 s5 s6 g5 g6 c5 c6 G3
    go_wp2
    go_ret3
    exact HE.out
  · have G3 := below_of_grown b3 g4
    clear b3 g4 c3
    go_wp2_with fail
    refine (drawSeriesI_c w.heap.size f x (-1) w4 c4 x0 (by omega)).mono ?_
    rintro e w5 ⟨l, a5, cap5, rfl, hl5, s5, c5, g5⟩
    have hl6 : l.length ≤ 66 := by omega
    clear hl5 c4
    go_wp2_with fail
    refine (drawSeriesI_c w.heap.size f (x + 1) (-1) w5 c5 (by omega) (by omega)).mono ?_
    rintro e w6 ⟨m, a6, cap6, rfl, hm6, s6, c6, g6⟩
    have hm7 : m.length ≤ 66 := by omega
    have HE : Hid (D2W w (.returned (.tuple #[.int .i64 f, .slice a5 l.length cap5, .slice a6 m.length cap6])) w6) := Lib.hid (two_end G3 hl6 hm7 s5 g5 s6 g6)
    clear hm6 s5 s6 g5 g6 c5 c6 G3
    go_wp2
    go_ret3
    exact HE.out
set_option maxRecDepth 100000 in
set_option maxHeartbeats 1600000 in
theorem drawSeriesInto_c (a : Option Addr) (len cap : Nat) (w : World) (hc : Code w a len) : Calls Tryd.prog 38 #[.slice a len cap] w (D2W w) := by
  have hl := hc.1
  go_enter Tryd.func38, Tryd.ntmps38
  go_wp2_with fail
  refine (new_c a len cap w hc).mono ?_
  rintro e w1 ⟨rfl, b1, c1⟩
  go_wp2_with fail
  refine (field_c w.heap.size w1 c1).mono ?_
  rintro e w2 ⟨f, _, rfl, g2, c2⟩
  have b2 := below_of_grown b1 g2
  clear b1 g2 c1 hc
  go_wp2_with fail
  refine (drawLength_c w.heap.size f a len cap w2 c2 hl).mono ?_
  rintro e w3 ⟨x, ⟨x0, x1⟩, rfl, g3, c3⟩
  have b3 := below_of_grown b2 g3
  clear b2 g3 c2
  go_wp2_with fail
  refine (once_c w.heap.size 12 w3 c3 (by omega) (by omega)).mono ?_
  rintro e w4 ⟨bb, rfl, g4, c4⟩
  cases bb
  · have G3 := below_of_grown b3 g4
    clear b3 g4 c3
    go_wp2_with fail
    refine (drawSeriesI_c w.heap.size f x (-1) w4 c4 x0 (by omega)).mono ?_
    rintro e w5 ⟨l, a5, cap5, rfl, hl5, s5, c5, g5⟩
    have hl6 : l.length ≤ 66 := by omega
    clear hl5 c4
    go_wp2_with fail
    refine (drawSeriesI_c w.heap.size f (x) (0) w5 c5 (by omega) (by omega)).mono ?_
    rintro e w6 ⟨m, a6, cap6, rfl, hm6, s6, c6, g6⟩
    have hm7 : m.length ≤ 66 := by omega
    have HE : Hid (D2W w (.returned (.tuple #[.int .i64 f, .slice a5 l.length cap5, .slice a6 m.length cap6])) w6) := Lib.hid (two_end G3 hl6 hm7 s5 g5 s6 g6)
    clear hm6 s5 s6 g5 g6 c5 c6 G3
    go_wp2
    go_ret3
    exact HE.out
  · have G3 := below_of_grown b3 g4
    clear b3 g4 c3
    go_wp2_with fail
    refine (drawSeriesI_c w.heap.size f x (-1) w4 c4 x0 (by omega)).mono ?_
    rintro e w5 ⟨l, a5, cap5, rfl, hl5, s5, c5, g5⟩
    have hl6 : l.length ≤ 66 := by omega
    clear hl5 c4
    go_wp2_with fail
    refine (drawSeriesI_c w.heap.size f (x + 1) (0) w5 c5 (by omega) (by omega)).mono ?_
    rintro e w6 ⟨m, a6, cap6, rfl, hm6, s6, c6, g6⟩
    have hm7 : m.length ≤ 66 := by omega
    have HE : Hid (D2W w (.returned (.tuple #[.int .i64 f, .slice a5 l.length cap5, .slice a6 m.length cap6])) w6) := Lib.hid (two_end G3 hl6 hm7 s5 g5 s6 g6)
    clear hm6 s5 s6 g5 g6 c5 c6 G3
    go_wp2
    go_ret3
    exact HE.out
end Go.Proofs.YtmgggdibbhameabDoor
namespace Go.Proofs.YtmgggdibbhameabDoor
open Go.RowKit
/-- A list that is read, and its capacity. -/
def SrcC (w : World) (a : Option Addr) (n cap : Nat) (F : Nat → Int) : Prop := n ≤ cap ∧ Src w a n F
theorem SrcC.src {w : World} {a : Option Addr} {n cap : Nat} {F : Nat → Int} (h : SrcC w a n cap F) : Src w a n F := h.2
theorem SrcC.keep {w w' : World} {a : Option Addr} {n cap : Nat} {F : Nat → Int} (h : SrcC w a n cap F) (hb : Below w.heap.size w w') : SrcC w' a n cap F := ⟨h.1, h.2.keep hb⟩
theorem OwnA.srcC {w : World} {B : Nat} {a : Option Addr} {l : List Int} {cap : Nat} (h : OwnA w B a l cap) : SrcC w a l.length cap (lf l) :=
  ⟨by
    rcases h with ⟨_, h1, h2⟩ | ⟨_, _, h1, _⟩
    · omega
    · omega, h.src⟩
def ListC (w : World) (l : List Int) (e : Ending) (w' : World) : Prop := ∃ a cap, e = .returned (.slice a l.length cap) ∧ SrcC w' a l.length cap (lf l) ∧ Below w.heap.size w w'
set_option maxHeartbeats 1600000 in
theorem cpO_some (b off n cap : Nat) (F : Nat → Int) (w : World) (hn : n ≤ 1048576) (hlt : b < w.heap.size) (hc : ∀ j, j < n → w.cell? ⟨b, off + j, none⟩ = some (.int .i64 (F j))) :
    Calls Tryd.prog 27 #[.slice (some ⟨b, off, none⟩) n cap] w (fun e w' => ∃ v, e = .returned v ∧ w'.ownsRow w.heap.size 3 1 v n (xsF F n) ∧ Below w.heap.size w w') := by
  have HC := Lib.hid hc
  clear hc
  obtain ⟨i0, hi, hz0, hz1, hz2⟩ := info_parts info3
  have HI := Lib.hid hi
  have HZ0 := Lib.hid hz0
  have HZ1 := Lib.hid hz1
  have HZ2 := Lib.hid hz2
  clear hi hz0 hz1 hz2
  go_enter Tryd.func27, Tryd.ntmps27
  go_wp2_with fail
  go_loopw [3, 4] (fun v i wr => ∃ k : Nat, i = .int .i64 k ∧ k ≤ n ∧ wr.ownsRow w.heap.size 3 1 v k (xsF F k) ∧ Below w.heap.size w wr) (fun _ i _ => n - (intOf i).toNat)
  case atStart => exact ⟨0, rfl, Nat.zero_le _, own_empty w F, (Below.refl _ _).alloc (Nat.le_refl _) _⟩
  case round =>
    obtain ⟨k, rfl, hk, hown, hnx⟩ := hrel
    by_cases h1 : k < n
    · have hc2 : wr.cell? ⟨b, off + k, none⟩ = some (.int .i64 (F k)) := (hnx.cell (p := ⟨b, off + k, none⟩) hlt).trans (HC.out k h1)
      have hs := hnx.size
      go_wp2_with (at_builtin; refine wpList_append_own _ rfl _ _ 22 rfl w.heap.size 3 i0 (.int .i64 0) 1 8 Tryd.underlying22 HI.out HZ0.out HZ1.out HZ2.out rfl (by decide) _ _ _ rfl (hown.alloc _) ⟨wr.heap.size, 0, none⟩ 1 1 [.int .i64 (F k)] rfl rfl ?c1 ?c2 ?c3 ?c4 ?c5 ?_)
      case c1 => exact cell_one_new _ _ _
      case c2 => intro u hu; simp at hu; subst hu; rfl
      case c3 => unfold maxLen; omega
      case c4 => omega
      case c5 => simp; omega
      intro v' w1 hown' hgrow _
      have hbel : Below w.heap.size w w1 := (hnx.alloc hs _).grown hgrow (by simp; omega) (own_ge hown)
      rw [xsF_succ] at hown'
      clear hgrow hown hc2
      go_wp2
      go_roundw
      case rel => exact ⟨k + 1, by go_num, by omega, hown', hbel⟩
      case measure => simp [intOf]; omega
    · have hd : decide (k < n) = false := by simpa using h1
      obtain rfl : k = n := by omega
      have HO := Lib.hid hown
      clear hown
      go_wp2
      go_ret
      exact ⟨_, rfl, HO.out, hnx⟩
theorem cpC_some (b off n cap : Nat) (F : Nat → Int) (w : World) (hn : n ≤ 1048576) (hlt : b < w.heap.size) (hc : ∀ j, j < n → w.cell? ⟨b, off + j, none⟩ = some (.int .i64 (F j))) :
    Calls Tryd.prog 27 #[.slice (some ⟨b, off, none⟩) n cap] w (fun e w' => ∃ a cap, e = .returned (.slice a n cap) ∧ SrcC w' a n cap F ∧ Below w.heap.size w w') :=
  (cpO_some b off n cap F w hn hlt hc).mono fun e w' h => by
    obtain ⟨v, rfl, ho, hb⟩ := h
    obtain ⟨a', cap', rfl, hcap, hsrc⟩ := src_of_owns2 ho
    exact ⟨a', cap', rfl, ⟨hcap, hsrc⟩, hb⟩
/-- A copy that may be written. -/
theorem cp_v (a : Option Addr) (l : List Int) (cap : Nat) (w : World) (hn : l.length ≤ 1048576) (h1 : 0 < l.length) (hs : Src w a l.length (lf l)) : Calls Tryd.prog 27 #[.slice a l.length cap] w (fun e w' => ∃ g cap, e = .returned (.slice (some ⟨g, 0, none⟩) l.length cap) ∧ w.heap.size ≤ g ∧ OwnV w' g l.length cap (lf l) ∧ Below w.heap.size w w') := by
  rcases hs with hz | ⟨b, off, rfl, hlt, hc⟩
  · omega
  · refine (cpO_some b off l.length cap (lf l) w hn hlt hc).mono fun e w' h => ?_
    obtain ⟨v, rfl, ho, hb⟩ := h
    obtain ⟨g, c, rfl, hg, hov⟩ := OwnV.of_owns ho (by omega)
    exact ⟨g, c, rfl, hg, hov, hb⟩
theorem cpC_none (a : Option Addr) (cap : Nat) (F : Nat → Int) (w : World) : Calls Tryd.prog 27 #[.slice a 0 cap] w (fun e w' => ∃ a cap, e = .returned (.slice a 0 cap) ∧ SrcC w' a 0 cap F ∧ Below w.heap.size w w') := by
  go_enter Tryd.func27, Tryd.ntmps27
  go_wp2
  refine wp_loop_rounds 1 ?_
  rw [rounds_succ]
  go_wp2
  go_ret
  exact ⟨_, _, rfl, ⟨Nat.zero_le _, .inl rfl⟩, (Below.refl _ _).alloc (Nat.le_refl _) _⟩
theorem cp_lc (a : Option Addr) (l : List Int) (cap : Nat) (w : World) (hn : l.length ≤ 1048576) (hs : Src w a l.length (lf l)) : Calls Tryd.prog 27 #[.slice a l.length cap] w (ListC w l) := by
  rcases hs with hz | ⟨b, off, rfl, hlt, hc⟩
  · have := cpC_none a cap (lf l) w
    rw [← hz] at this
    exact this
  · exact cpC_some b off l.length cap (lf l) w hn hlt hc
end Go.Proofs.YtmgggdibbhameabDoor
namespace Go.Proofs.YtmgggdibbhameabDoor
open Go.RowKit
theorem iSeriesOk (f : Int) (a : Option Addr) (l : List Int) (cap : Nat) (w : World) (hn : l.length ≤ 1048576) (hs : Src w a l.length (lf l)) (ht : Tab w) : Calls Tryd.prog 51 #[.int .i64 f, .slice a l.length cap] w (SameB w (mSeriesOk f l)) := by
  by_cases hk : 0 ≤ f ∧ f ≤ 8
  · have HK := Lib.hid (known_yes f w hk.1 hk.2)
    by_cases hz : l.length = 0
    · rw [sok_not.2 fun h => by have := h.2.1.1; omega]
      obtain rfl : l = [] := List.eq_nil_of_length_eq_zero hz
      clear hs hz
      show Calls Tryd.prog 51 #[.int .i64 f, .slice a 0 cap] w (SameB w false)
      go_enter Tryd.func51, Tryd.ntmps51
      go_wp2_with fail
      refine HK.out.mono ?_
      rintro e w' ⟨rfl, rfl⟩
      go_wp2
      go_ret
      exact ⟨rfl, rfl⟩
    · have hd : decide ((0 : Int) < l.length) = true := decide_eq_true (by omega)
      by_cases h64 : l.length ≤ 64
      · have hd2 : decide ((l.length : Int) ≤ 64) = true := decide_eq_true (by omega)
        have HA : Hid (Calls Tryd.prog 78 #[.int .i64 f, .slice a l.length cap] w (SameB w (mSeriesOk f l))) := Lib.hid (hasAll_c f a l cap w ht hk.1 hk.2 hn hs (mSeriesOk f l) (by
          rw [sok_iff]
          exact ⟨fun h => h.2.2, fun h => ⟨hk, by omega, h⟩⟩))
        clear hs
        generalize mSeriesOk f l = B at *
        go_enter Tryd.func51, Tryd.ntmps51
        go_wp2_with fail
        refine HK.out.mono ?_
        rintro e w' ⟨rfl, rfl⟩
        go_wp2_with fail
        refine HA.out.mono ?_
        rintro e w' ⟨rfl, rfl⟩
        go_wp2
        go_ret
        exact ⟨rfl, rfl⟩
      · have hd2 : decide ((l.length : Int) ≤ 64) = false := decide_eq_false (by omega)
        rw [sok_not.2 fun h => by have := h.2.1.2; omega]
        clear hs
        go_enter Tryd.func51, Tryd.ntmps51
        go_wp2_with fail
        refine HK.out.mono ?_
        rintro e w' ⟨rfl, rfl⟩
        go_wp2
        go_ret
        exact ⟨rfl, rfl⟩
  · have HK := Lib.hid (known_no f w (by omega))
    rw [sok_not.2 fun h => hk h.1]
    clear hs hk
    go_enter Tryd.func51, Tryd.ntmps51
    go_wp2_with fail
    refine HK.out.mono ?_
    rintro e w' ⟨rfl, rfl⟩
    go_wp2
    go_ret
    exact ⟨rfl, rfl⟩
theorem areComp_c (f : Int) (a : Option Addr) (l : List Int) (cap : Nat) (a2 : Option Addr) (m : List Int) (cap2 : Nat) (w : World) (hn : l.length ≤ 1048576) (hn2 : m.length ≤ 1048576) (hs : Src w a l.length (lf l)) (hs2 : Src w a2 m.length (lf m)) (ht : Tab w) : Calls Tryd.prog 49 #[.int .i64 f, .slice a l.length cap, .slice a2 m.length cap2] w (SameB w (mFit f l m)) := by
  have H1 := Lib.hid (iSeriesOk f a l cap w hn hs ht)
  have H2 := Lib.hid (iSeriesOk f a2 m cap2 w hn2 hs2 ht)
  clear hs hs2
  by_cases hlm : l.length = m.length
  · have hd : ((l.length : Int) == m.length) = true := by rw [beq_iff_eq]; omega
    by_cases h1 : SerOk f l
    · have e : mFit f l m = mSeriesOk f m := by
        by_cases h2 : SerOk f m
        · rw [sok_iff.2 h2]
          unfold mFit
          simp only [decide_eq_true_eq]
          exact ⟨hlm, h1, h2⟩
        · rw [sok_not.2 h2]
          unfold mFit
          simp only [decide_eq_false_iff_not]
          exact fun h => h2 h.2.2
      rw [e]
      rw [sok_iff.2 h1] at H1
      clear hlm h1 e
      generalize mSeriesOk f m = B at *
      go_enter Tryd.func49, Tryd.ntmps49
      go_wp2_with fail
      refine H1.out.mono ?_
      rintro e w' ⟨rfl, rfl⟩
      go_wp2_with fail
      refine H2.out.mono ?_
      rintro e w' ⟨rfl, rfl⟩
      go_wp2
      go_ret
      exact ⟨rfl, rfl⟩
    · have e : mFit f l m = false := by
        unfold mFit
        simp only [decide_eq_false_iff_not]
        exact fun h => h1 h.2.1
      rw [e]
      rw [sok_not.2 h1] at H1
      clear hlm h1 e
      go_enter Tryd.func49, Tryd.ntmps49
      go_wp2_with fail
      refine H1.out.mono ?_
      rintro e w' ⟨rfl, rfl⟩
      go_wp2
      go_ret
      exact ⟨rfl, rfl⟩
  · have hd : ((l.length : Int) == m.length) = false := by rw [beq_eq_false_iff_ne]; omega
    have e : mFit f l m = false := by
      unfold mFit
      simp only [decide_eq_false_iff_not]
      exact fun h => hlm h.1
    rw [e]
    clear hlm e
    go_enter Tryd.func49, Tryd.ntmps49
    go_wp2
    go_ret
    exact ⟨rfl, rfl⟩
open Classical in
noncomputable def mStarts (f : Int) (l : List Int) (x : Int) : Bool := decide (SerOk f l ∧ lf l 0 = x)
theorem starts_c (f : Int) (a : Option Addr) (l : List Int) (cap : Nat) (x : Int) (w : World) (hn : l.length ≤ 1048576) (hs : Src w a l.length (lf l)) (ht : Tab w) : Calls Tryd.prog 45 #[.int .i64 f, .slice a l.length cap, .int .i64 x] w (SameB w (mStarts f l x)) := by
  have H1 := Lib.hid (iSeriesOk f a l cap w hn hs ht)
  by_cases h1 : SerOk f l
  · have n1 := h1.2.1
    have e : mStarts f l x = (lf l 0 == x) := by
      unfold mStarts
      by_cases h2 : lf l 0 = x
      · simp [h1, h2]
      · simp [h2]
    rw [e]
    rw [sok_iff.2 h1] at H1
    rcases hs with hz | ⟨b, off, rfl, hlt, hc⟩
    · omega
    have c0 : w.cell? ⟨b, off, none⟩ = some (.int .i64 (lf l 0)) := by have := hc 0 (by omega); rwa [Nat.add_zero] at this
    have n0 : (0 : Int) < (l.length : Int) := by omega
    have n0' : 0 < l.length := by omega
    clear hc h1 e
    generalize lf l 0 = A0 at *
    go_enter Tryd.func45, Tryd.ntmps45
    go_wp2_with fail
    refine H1.out.mono ?_
    rintro e w' ⟨rfl, rfl⟩
    go_wp2
    go_ret
    exact ⟨rfl, rfl⟩
  · have e : mStarts f l x = false := by
      unfold mStarts
      simp [h1]
    rw [e]
    rw [sok_not.2 h1] at H1
    clear hs h1 e
    go_enter Tryd.func45, Tryd.ntmps45
    go_wp2_with fail
    refine H1.out.mono ?_
    rintro e w' ⟨rfl, rfl⟩
    go_wp2
    go_ret
    exact ⟨rfl, rfl⟩
theorem hasInt_c (f : Int) (a : Option Addr) (n cap : Nat) (w : World) (h0 : 0 ≤ f) (h8 : f ≤ 8) (ht : Tab w) : Calls Tryd.prog 58 #[.int .i64 f, .slice a n cap] w (SameB w (decide ((n : Int) ≤ P f))) := by
  have H := Lib.hid (prime_c f w ht h0 h8)
  go_enter Tryd.func58, Tryd.ntmps58
  go_wp2_with fail
  refine H.out.mono ?_
  rintro e w' ⟨rfl, rfl⟩
  go_wp2
  go_ret
  exact ⟨rfl, rfl⟩
end Go.Proofs.YtmgggdibbhameabDoor
namespace Go.Proofs.YtmgggdibbhameabDoor
open Go.RowKit
/-- The exponential so far. -/
def EQ (f : Int) (l r : List Int) : Prop := (∀ j, 0 ≤ lf r j ∧ lf r j < P f) ∧ lf r 0 = 1 ∧ IsLog (P f) r.length (lf l) (lf r)
noncomputable def expD (f : Int) (l r : List Int) (m : Nat) : List Int := elL f m (mixS (lf l) (lf (logL f (padL r m))) (P f - 1))
noncomputable def expE (f : Int) (l r : List Int) (m : Nat) : List Int := elL f m (mulS (lf r) (lf (expD f l r m)))
noncomputable def expR (f : Int) (l r : List Int) (m : Nat) : List Int := elL f m (mixS (lf r) (lf (expE f l r m)) 1)
theorem pad_log {f : Int} {l r : List Int} {m : Nat} (hl : ShortOk f l) (hb : ∀ j, 0 ≤ lf r j ∧ lf r j < P f) (hz : lf r 0 = 1) (m1 : 1 ≤ m) (hrm : r.length ≤ m) (hmn : m ≤ l.length) : LogOk f (padL r m) ∧ lf (padL r m) = lf r := by
  have e : lf (padL r m) = lf r := funext fun j => lf_padL r hrm j
  refine ⟨⟨⟨⟨hl.1.1, by rw [padL_len]; exact ⟨m1, Nat.le_trans hmn hl.1.2.1.2⟩, fun j _ => by rw [e]; exact hb j⟩, ?_⟩, by rw [e]; exact hz⟩, e⟩
  have := hl.2
  rw [padL_len]
  omega
theorem exp_step {f : Int} {l r : List Int} {m : Nat} (hl : ExpOk f l) (r1 : 1 ≤ r.length) (hrm : r.length ≤ m) (hm : m ≤ 2 * r.length) (hmn : m ≤ l.length) (hq : EQ f l r) : EQ f l (expR f l r m) := by
  have h0 := hl.1.1.1.1
  have h8 := hl.1.1.1.2
  have hp := P_bd h0 h8
  obtain ⟨hb, hz, hlog⟩ := hq
  obtain ⟨hlo, e⟩ := pad_log hl.1 hb hz (by omega) hrm hmn
  have hL : lf (logL f (padL r m)) 0 = 0 ∧ IsLog (P f) m (lf (logL f (padL r m))) (lf r) := by
    obtain ⟨_, x2, x3⟩ := logL_is hlo.1 hlo.2
    rw [e, padL_len] at x3
    exact ⟨x2, x3⟩
  have hl0 : lf l 0 = 0 := hl.2
  have hD0 : lf (expD f l r m) 0 = 0 := by
    unfold expD
    rw [lf_elL, if_pos (by omega)]
    show RS (lf l 0 + (P f - 1) * lf (logL f (padL r m)) 0) (P f) = 0
    rw [hl0, hL.1]
    simp [RS]
  have hE0 : lf (expE f l r m) 0 = 0 := by
    unfold expE
    rw [lf_elL, if_pos (by omega)]
    show RS (cv 0 (lf r) (lf (expD f l r m))) (P f) = 0
    rw [cv_ipar, hD0]
    simp [ipar, sumN, RS]
  refine ⟨(elL_ser h0 h8 _ _).2, ?_, ?_⟩
  · unfold expR
    rw [lf_elL, if_pos (by omega)]
    show RS (lf r 0 + 1 * lf (expE f l r m) 0) (P f) = 1
    rw [hE0, hz]
    show (1 + 1 * 0 : Int) % P f = 1
    exact one_p h0 h8
  · unfold expR
    rw [elL_len]
    have h := exp_dbl h0 h8 hrm hm (by have := hl.1.2; omega) hlog hL.2 (by rw [hz]; exact one_ne h0 h8) (by rw [hl0]; rfl) (by rw [hL.1]; rfl) (D := lf (expD f l r m)) (elL_eq m _)
    refine h.congr (EqN.refl _ _ _) ?_
    exact (elL_eq m _).trans ((EqN.refl _ _ _).mix _ (elL_eq m _))
set_option maxRecDepth 100000 in
set_option maxHeartbeats 3200000 in
theorem expStep_c (f : Int) (B1 B2 b off cap g m : Nat) (l r : List Int) (W : World) (ht : Tab W) (hl : ExpOk f l) (hk : BoxP f (.slice (some ⟨b, off, none⟩) l.length cap) B1 B2 W) (hmn : m ≤ l.length) (hcap : l.length ≤ cap)
    (hs : Src W (some ⟨b, off, none⟩) l.length (lf l)) (r1 : 1 ≤ r.length) (hrm : r.length ≤ m) (hm2 : m ≤ 2 * r.length) (hq : EQ f l r) (ho : Own W g m (lf r)) :
    Calls Tryd.prog 84 #[.slice (some ⟨g, 0, none⟩) m m, .pointer (some ⟨B1, 0, none⟩), .pointer (some ⟨B2, 0, none⟩)] W (fun e W' => ∃ r' : List Int, r'.length = m ∧ EQ f l r' ∧ OwnG W r' e W') := by
  have h0 := hl.1.1.1.1
  have h8 := hl.1.1.1.2
  have hp := P_bd h0 h8
  have HST := Lib.hid (exp_step hl r1 hrm hm2 hmn hq)
  have l1 := cell_lt hk.1
  have l2 := cell_lt hk.2
  have hcm : (m : Int) ≤ cap := by omega
  have hn64 := hl.1.1.2.1.2
  have m1 : 1 ≤ m := by omega
  obtain ⟨hb, hz, _⟩ := hq
  obtain ⟨hlo, ep⟩ := pad_log hl.1 hb hz m1 hrm hmn
  have hL := (logL_is hlo.1 hlo.2).1
  rw [padL_len] at hL
  have P0 : Hid (∀ W1, Below W.heap.size W W1 → Calls Tryd.prog 59 #[.int .i64 f, .slice (some ⟨g, 0, none⟩) m m] W1 (fun e w' => ∃ g1, e = .returned (.slice (some ⟨g1, 0, none⟩) m m) ∧ W1.heap.size ≤ g1 ∧ Own w' g1 m (lf (logL f (padL r m))) ∧ Below W1.heap.size W1 w')) := Lib.hid fun W1 hb1 => by
    have hs1 : Src W1 (some ⟨g, 0, none⟩) (padL r m).length (lf (padL r m)) := by rw [padL_len, ep]; exact ho.src.keep hb1
    have := logarithm_c f (some ⟨g, 0, none⟩) (padL r m) m W1 (ht.below hb1) hlo (by rw [padL_len]; exact Nat.le_refl _) hs1
    rw [padL_len] at this
    exact this.mono fun _ _ h => h.as hL.1
  have P1 : Hid (∀ (g1 : Nat) W1, Below W.heap.size W W1 → Own W1 g1 m (lf (logL f (padL r m))) → Calls Tryd.prog 74 #[.int .i64 f, .slice (some ⟨b, off, none⟩) m cap, .slice (some ⟨g1, 0, none⟩) m m, .int .i64 (P f - 1)] W1 (fun e w' => ∃ g3, e = .returned (.slice (some ⟨g3, 0, none⟩) m m) ∧ W1.heap.size ≤ g3 ∧ Own w' g3 m (lf (expD f l r m)) ∧ Below W1.heap.size W1 w')) := Lib.hid fun g1 W1 hb1 o1 =>
    (mixed_c f (P f - 1) _ _ m cap m (lf l) _ W1 (ht.below hb1) h0 h8 (by omega) (by omega) m1 (by omega) hl.1.1.all hL.2 ((hs.less hmn).keep hb1) o1.src).mono fun _ _ h => h.as (elL_len _ _ _)
  have P2 : Hid (∀ (g1 : Nat) W1, Below W.heap.size W W1 → Own W1 g1 m (lf (expD f l r m)) → Calls Tryd.prog 66 #[.int .i64 f, .slice (some ⟨g, 0, none⟩) m m, .slice (some ⟨g1, 0, none⟩) m m] W1 (fun e w' => ∃ g2, e = .returned (.slice (some ⟨g2, 0, none⟩) m m) ∧ W1.heap.size ≤ g2 ∧ Own w' g2 m (lf (expE f l r m)) ∧ Below W1.heap.size W1 w')) := Lib.hid fun g1 W1 hb1 o1 =>
    (sprod_c f _ _ m m m (lf r) _ W1 (ht.below hb1) h0 h8 m1 (by omega) (Nat.le_refl _) hb (elL_ser h0 h8 _ _).2 (ho.src.keep hb1) o1.src).mono fun _ _ h => h.as (elL_len _ _ _)
  have P3 : Hid (∀ (g2 : Nat) W1, Below W.heap.size W W1 → Own W1 g2 m (lf (expE f l r m)) → Calls Tryd.prog 74 #[.int .i64 f, .slice (some ⟨g, 0, none⟩) m m, .slice (some ⟨g2, 0, none⟩) m m, .int .i64 1] W1 (fun e w' => ∃ g3, e = .returned (.slice (some ⟨g3, 0, none⟩) m m) ∧ W1.heap.size ≤ g3 ∧ Own w' g3 m (lf (expR f l r m)) ∧ Below W1.heap.size W1 w')) := Lib.hid fun g2 W1 hb1 o2 =>
    (mixed_c f 1 _ _ m m m (lf r) _ W1 (ht.below hb1) h0 h8 (by omega) (by omega) m1 (by omega) hb (elL_ser h0 h8 _ _).2 (ho.src.keep hb1) o2.src).mono fun _ _ h => h.as (elL_len _ _ _)
  have HPR : Hid (∀ W1, Below W.heap.size W W1 → Calls Tryd.prog 75 #[.int .i64 f] W1 fun e w' => e = .returned (.int .i64 (P f)) ∧ W1 = w') := Lib.hid fun W1 hb => prime_c f W1 (ht.below hb) h0 h8
  have HF : Hid (∀ (g3 : Nat) (W' : World), W.heap.size ≤ g3 → Own W' g3 m (lf (expR f l r m)) → Below W.heap.size W W' → ∃ r' : List Int, r'.length = m ∧ EQ f l r' ∧ OwnG W r' (.returned (.slice (some ⟨g3, 0, none⟩) m m)) W') := Lib.hid fun g3 W' hg3 o3 hb => ⟨_, elL_len _ _ _, HST.out, OwnG.mk' (elL_len _ _ _) hg3 o3 hb⟩
  have m0' : (0 : Int) < m := by omega
  have q1 : IntKind.i64.wrap (P f - 1) = P f - 1 := IntWalk.i64_in _ (by omega)
  have b0 : Below W.heap.size W W.drew := ⟨rfl, rfl, rfl, Nat.le_refl _, fun _ _ => rfl⟩
  have k0 : BoxP f (.slice (some ⟨b, off, none⟩) l.length cap) B1 B2 W.drew := hk
  clear hs hl ho HST ht hm2 r1 hb hz hlo ep hL hrm
  generalize lf (logL f (padL r m)) = L at *
  generalize lf (expD f l r m) = D at *
  generalize lf (expE f l r m) = E at *
  generalize lf (expR f l r m) = R at *
  generalize l.length = n at *
  go_enter Tryd.func84, Tryd.ntmps84
  go_wp2_with fail
  go_region_held3 (fun W1 => W1.cell? ⟨B1, 0, none⟩ = some (.int .i64 f) ∧ W1.cell? ⟨B2, 0, none⟩ = some (.slice (some ⟨b, off, none⟩) n cap))
    (first | exact hk | exact k0 | exact k1 | exact k2 | go_keep)
    (first
      | (go_at_call 59; refine (P0.out _ b0).mono ?_; rintro e w1 ⟨g1, rfl, hg1, o1, b1⟩; have b2 := below_up b0 b1 b0.size; have k1 := hk.keep b2 l1 l2)
      | (go_at_call 75; refine (HPR.out _ b2).mono ?_; rintro e w' ⟨rfl, rfl⟩)
      | (go_at_call 74; refine (P1.out g1 _ b2 o1).mono ?_; rintro e w2 ⟨g2, rfl, hg2, o2, b3⟩; have b4 := below_up b2 b3 b2.size; have k2 := hk.keep b4 l1 l2))
  have HO2 := Lib.hid o2
  clear o1 o2 b1 b2 b3 k1 P0 P1
  go_wp2_with fail
  have b5 := b4.drew
  have k3 : BoxP f (.slice (some ⟨b, off, none⟩) n cap) B1 B2 w2.drew := k2
  have o3 : Own w2.drew g2 m D := HO2.out
  go_region_held3 (fun W1 => W1.cell? ⟨B1, 0, none⟩ = some (.int .i64 f))
    (first | exact k2.1 | exact k3.1 | exact k4.1 | exact k5.1 | go_keep)
    (first
      | (go_at_call 66; refine (P2.out g2 _ b5 o3).mono ?_; rintro e w4 ⟨g3, rfl, hg3, o4, b6⟩; have b7 := below_up b5 b6 b5.size; have k4 := hk.keep b7 l1 l2)
      | (go_at_call 74; refine (P3.out g3 _ b7 o4).mono ?_; rintro e w5 ⟨g4, rfl, hg4, o5, b8⟩; have b9 := below_up b7 b8 b7.size; have k5 := hk.keep b9 l1 l2))
  all_goals
    have HR := Lib.hid (HF.out g4 _ (Nat.le_trans b7.size hg4) o5 b9)
    clear o3 o4 o5
    go_wp2
    go_ret
    exact HR.out
theorem exp_first {f : Int} {l : List Int} (hl : ExpOk f l) : EQ f l [1] := by
  have h0 := hl.1.1.1.1
  have h8 := hl.1.1.1.2
  have hp := P_bd h0 h8
  refine ⟨fun j => ?_, rfl, fun i hi => ?_⟩
  · cases j with
    | zero => show 0 ≤ (1 : Int) ∧ (1 : Int) < P f; omega
    | succ j => show 0 ≤ (0 : Int) ∧ (0 : Int) < P f; omega
  · have hi' : i < 1 := hi
    obtain rfl : i = 0 := by omega
    show (((0 : Nat) : Int) * lf [1] 0) % P f = cv 0 (thS (lf l)) (lf [1]) % P f
    rw [cv_ipar]
    show (((0 : Nat) : Int) * lf [1] 0) % P f = (((0 : Nat) : Int) * lf l 0 * lf [1] 0 + 0) % P f
    simp
theorem EQ.exp {f : Int} {l r : List Int} (hl : ExpOk f l) (hr : r.length = l.length) (hq : EQ f l r) : r = expL f l :=
  (expL_eq hl.1 ⟨⟨hr, hq.1⟩, hq.2.1, by have := hq.2.2; rwa [hr] at this⟩).symm
set_option maxRecDepth 100000 in
set_option maxHeartbeats 1600000 in
theorem exponential_c (f : Int) (a : Option Addr) (l : List Int) (cap : Nat) (w : World) (ht : Tab w) (h : ExpOk f l) (hcap : l.length ≤ cap) (hs : Src w a l.length (lf l)) :
    Calls Tryd.prog 60 #[.int .i64 f, .slice a l.length cap] w (OwnG w (expL f l)) := by
  have n1 := h.1.1.2.1
  obtain ⟨b, off, rfl, hlt, hc⟩ : ∃ b off, a = some ⟨b, off, none⟩ ∧ b < w.heap.size ∧ ∀ j, j < l.length → w.cell? ⟨b, off + j, none⟩ = some (.int .i64 (lf l j)) := by
    rcases hs with hq | hq
    · omega
    · exact hq
  have hs : Src w (some ⟨b, off, none⟩) l.length (lf l) := .inr ⟨b, off, rfl, hlt, hc⟩
  have HGR : Hid (∀ W, Below w.heap.size w W → BoxP f (.slice (some ⟨b, off, none⟩) l.length cap) w.heap.size (w.heap.size + 1) W → Calls Tryd.prog 72 #[.int .i64 1, .int .i64 l.length, .func (.func 84) #[] #[.pointer (some ⟨w.heap.size, 0, none⟩), .pointer (some ⟨w.heap.size + 1, 0, none⟩)]] W (OwnG W (expL f l))) := Lib.hid fun W hb hk => by
    have l2 := cell_lt hk.2
    refine (grown_c 84 (enters_of Tryd.func84 (by kernel_rfl) rfl) _ _ 1 l.length (EQ f l) W n1.1 (by omega) (exp_first h) fun W2 g m r hb2 hg r1 hrm hm2 hmn hq ho => ?_).mono ?_
    · have hb3 := below_up hb hb2 hb.size
      exact expStep_c f w.heap.size (w.heap.size + 1) b off cap g m l r W2 (ht.below hb3) h (hk.keep hb2 (by omega) l2) hmn hcap (hs.keep hb3) r1 hrm hm2 hq ho
    · rintro e W' ⟨r, hr, hq, ho⟩
      rwa [hq.exp h hr] at ho
  have BA : ∀ o1 o2, Below w.heap.size w ((w.alloc o1).alloc o2) := fun o1 o2 => ((Below.refl _ _).alloc (Nat.le_refl _) o1).alloc (by simp) o2
  have HOG : Hid (∀ e W W', Below w.heap.size w W → OwnG W (expL f l) e W' → OwnG w (expL f l) e W') := Lib.hid fun e W W' hb ho => ho.up hb
  clear h hs hc ht n1
  generalize expL f l = R at *
  generalize l.length = n at *
  have kb := box_new f (.slice (some ⟨b, off, none⟩) n cap) w 44 22
  have bb := BA (.cells #[.int .i64 f] 44) (.cells #[.slice (some ⟨b, off, none⟩) n cap] 22)
  go_enter Tryd.func60, Tryd.ntmps60
  go_wp2_with fail
  generalize ((w.alloc (.cells #[.int .i64 f] 44)).alloc (.cells #[.slice (some ⟨b, off, none⟩) n cap] 22)) = W1 at *
  refine (HGR.out _ bb kb).mono ?_
  intro e w4 h4
  have HR := Lib.hid (HOG.out e _ w4 bb h4)
  obtain ⟨g4, rfl, _⟩ := h4
  go_wp2
  go_ret
  exact HR.out
end Go.Proofs.YtmgggdibbhameabDoor
namespace Go.Proofs.YtmgggdibbhameabDoor
open Go.RowKit
/-- The root so far. -/
def RQ (f : Int) (l r : List Int) : Prop := (∀ j, 0 ≤ lf r j ∧ lf r j < P f) ∧ lf r 0 = 1 ∧ EqN (P f) r.length (mulS (lf r) (lf r)) (lf l)
noncomputable def rooV (f : Int) (r : List Int) (m : Nat) : List Int := invL f (padL r m)
noncomputable def rooQ (f : Int) (l r : List Int) (m : Nat) : List Int := elL f m (mulS (lf l) (lf (rooV f r m)))
noncomputable def rooE (f : Int) (l r : List Int) (m : Nat) : List Int := elL f m (mixS (lf (rooQ f l r m)) (lf r) (P f - 1))
noncomputable def rooR (f : Int) (l r : List Int) (m : Nat) : List Int := elL f m (mixS (lf r) (lf (rooE f l r m)) (mPower f 2 (-1)))
theorem pad_ser {f : Int} {l r : List Int} {m : Nat} (hl : SerOk f l) (hb : ∀ j, 0 ≤ lf r j ∧ lf r j < P f) (m1 : 1 ≤ m) (hrm : r.length ≤ m) (hmn : m ≤ l.length) : SerOk f (padL r m) ∧ lf (padL r m) = lf r := by
  have e : lf (padL r m) = lf r := funext fun j => lf_padL r hrm j
  exact ⟨⟨hl.1, by rw [padL_len]; exact ⟨m1, Nat.le_trans hmn hl.2.1.2⟩, fun j _ => by rw [e]; exact hb j⟩, e⟩
theorem rooV_is {f : Int} {l r : List Int} {m : Nat} (hl : SerOk f l) (hb : ∀ j, 0 ≤ lf r j ∧ lf r j < P f) (hz : lf r 0 = 1) (m1 : 1 ≤ m) (hrm : r.length ≤ m) (hmn : m ≤ l.length) : Ser f m (rooV f r m) ∧ IsInv (P f) m (lf r) (lf (rooV f r m)) := by
  obtain ⟨hs, e⟩ := pad_ser hl hb m1 hrm hmn
  obtain ⟨x1, x2⟩ := invL_is hs (by rw [e, hz]; decide)
  rw [padL_len] at x1 x2
  rw [e] at x2
  exact ⟨x1, x2⟩
theorem roo_step {f : Int} {l r : List Int} {m : Nat} (hl : SqrtOk f l) (r1 : 1 ≤ r.length) (hrm : r.length ≤ m) (hm : m ≤ 2 * r.length) (hmn : m ≤ l.length) (hq : RQ f l r) : RQ f l (rooR f l r m) := by
  have h0 := hl.1.1.1
  have h8 := hl.1.1.2
  have hp := P_bd h0 h8
  obtain ⟨hb, hz, hsq⟩ := hq
  obtain ⟨hV, hVi⟩ := rooV_is hl.1 hb hz (by omega) hrm hmn
  have hV0 : lf (rooV f r m) 0 = 1 := by
    have h := hVi 0 (by omega)
    have e : mulS (lf r) (lf (rooV f r m)) 0 = lf (rooV f r m) 0 := by
      show cv 0 (lf r) (lf (rooV f r m)) = _
      rw [cv_ipar, hz]
      simp [ipar, sumN]
    rw [e, Int.emod_eq_of_lt (hV.2 0).1 (hV.2 0).2] at h
    rw [h]
    exact one_p h0 h8
  have hl0 : lf l 0 = 1 := hl.2
  have hQ0 : lf (rooQ f l r m) 0 = 1 := by
    unfold rooQ
    rw [lf_elL, if_pos (by omega)]
    show RS (cv 0 (lf l) (lf (rooV f r m))) (P f) = 1
    rw [cv_ipar, hl0, hV0]
    show (1 * 1 + 0 : Int) % P f = 1
    exact one_p h0 h8
  have hE0 : lf (rooE f l r m) 0 = 0 := by
    unfold rooE
    rw [lf_elL, if_pos (by omega)]
    show RS (lf (rooQ f l r m) 0 + (P f - 1) * lf r 0) (P f) = 0
    rw [hQ0, hz]
    unfold RS
    rw [show (1 : Int) + (P f - 1) * 1 = P f by omega, Int.emod_self]
  refine ⟨(elL_ser h0 h8 _ _).2, ?_, ?_⟩
  · unfold rooR
    rw [lf_elL, if_pos (by omega)]
    show RS (lf r 0 + mPower f 2 (-1) * lf (rooE f l r m) 0) (P f) = 1
    rw [hE0, hz, Int.mul_zero]
    show (1 + 0 : Int) % P f = 1
    exact one_p h0 h8
  · have hQ : EqN (P f) m (mulS (lf (rooQ f l r m)) (lf r)) (lf l) := by
      have h1 : EqN (P f) m (mulS (lf (rooQ f l r m)) (lf r)) (mulS (mulS (lf l) (lf (rooV f r m))) (lf r)) := (elL_eq m _).mulr _
      refine h1.trans ?_
      rw [mul_assocS, mul_commS (lf (rooV f r m)) (lf r)]
      have h2 := EqN.mull (lf l) hVi
      rwa [mul_commS (lf l) oneS, one_mul] at h2
    have h := sqrt_dbl h0 h8 hrm hm (inv_mul h0 h8 (two_ne h0 h8)) hsq (by rw [hz]; exact one_ne h0 h8) hQ (E := lf (rooE f l r m)) (elL_eq m _)
    unfold rooR
    rw [elL_len]
    exact ((elL_eq m _).mul (elL_eq m _)).trans h
set_option maxRecDepth 100000 in
set_option maxHeartbeats 3200000 in
theorem rooStep_c (f : Int) (B1 B2 b off cap g m : Nat) (l r : List Int) (W : World) (ht : Tab W) (hl : SqrtOk f l) (hk : BoxP f (.slice (some ⟨b, off, none⟩) l.length cap) B1 B2 W) (hmn : m ≤ l.length) (hcap : l.length ≤ cap)
    (hs : Src W (some ⟨b, off, none⟩) l.length (lf l)) (r1 : 1 ≤ r.length) (hrm : r.length ≤ m) (hm2 : m ≤ 2 * r.length) (hq : RQ f l r) (ho : Own W g m (lf r)) :
    Calls Tryd.prog 73 #[.slice (some ⟨g, 0, none⟩) m m, .pointer (some ⟨B1, 0, none⟩), .pointer (some ⟨B2, 0, none⟩)] W (fun e W' => ∃ r' : List Int, r'.length = m ∧ RQ f l r' ∧ OwnG W r' e W') := by
  have h0 := hl.1.1.1
  have h8 := hl.1.1.2
  have hp := P_bd h0 h8
  have HST := Lib.hid (roo_step hl r1 hrm hm2 hmn hq)
  have l1 := cell_lt hk.1
  have l2 := cell_lt hk.2
  have hcm : (m : Int) ≤ cap := by omega
  have hn64 := hl.1.2.1.2
  have m1 : 1 ≤ m := by omega
  obtain ⟨hb, hz, _⟩ := hq
  obtain ⟨hso, ep⟩ := pad_ser hl.1 hb m1 hrm hmn
  have hV := (rooV_is hl.1 hb hz m1 hrm hmn).1
  have h2i := inv_bd (f := f) (x := 2) h0 h8 (by omega) (by omega)
  have P0 : Hid (∀ W1, Below W.heap.size W W1 → Calls Tryd.prog 71 #[.int .i64 f, .slice (some ⟨g, 0, none⟩) m m] W1 (fun e w' => ∃ g1, e = .returned (.slice (some ⟨g1, 0, none⟩) m m) ∧ W1.heap.size ≤ g1 ∧ Own w' g1 m (lf (rooV f r m)) ∧ Below W1.heap.size W1 w')) := Lib.hid fun W1 hb1 => by
    have hs1 : Src W1 (some ⟨g, 0, none⟩) (padL r m).length (lf (padL r m)) := by rw [padL_len, ep]; exact ho.src.keep hb1
    have := inverted_c f (some ⟨g, 0, none⟩) (padL r m) m W1 (ht.below hb1) hso (by rw [ep, hz]; decide) (by rw [padL_len]; exact Nat.le_refl _) hs1
    rw [padL_len] at this
    exact this.mono fun _ _ h => h.as hV.1
  have P1 : Hid (∀ (g1 : Nat) W1, Below W.heap.size W W1 → Own W1 g1 m (lf (rooV f r m)) → Calls Tryd.prog 66 #[.int .i64 f, .slice (some ⟨b, off, none⟩) m cap, .slice (some ⟨g1, 0, none⟩) m m] W1 (fun e w' => ∃ g3, e = .returned (.slice (some ⟨g3, 0, none⟩) m m) ∧ W1.heap.size ≤ g3 ∧ Own w' g3 m (lf (rooQ f l r m)) ∧ Below W1.heap.size W1 w')) := Lib.hid fun g1 W1 hb1 o1 =>
    (sprod_c f _ _ m cap m (lf l) _ W1 (ht.below hb1) h0 h8 m1 (by omega) (Nat.le_refl _) hl.1.all hV.2 ((hs.less hmn).keep hb1) o1.src).mono fun _ _ h => h.as (elL_len _ _ _)
  have P2 : Hid (∀ (g1 : Nat) W1, Below W.heap.size W W1 → Own W1 g1 m (lf (rooQ f l r m)) → Calls Tryd.prog 74 #[.int .i64 f, .slice (some ⟨g1, 0, none⟩) m m, .slice (some ⟨g, 0, none⟩) m m, .int .i64 (P f - 1)] W1 (fun e w' => ∃ g2, e = .returned (.slice (some ⟨g2, 0, none⟩) m m) ∧ W1.heap.size ≤ g2 ∧ Own w' g2 m (lf (rooE f l r m)) ∧ Below W1.heap.size W1 w')) := Lib.hid fun g1 W1 hb1 o1 =>
    (mixed_c f (P f - 1) _ _ m m m _ (lf r) W1 (ht.below hb1) h0 h8 (by omega) (by omega) m1 (by omega) (elL_ser h0 h8 _ _).2 hb o1.src (ho.src.keep hb1)).mono fun _ _ h => h.as (elL_len _ _ _)
  have P3 : Hid (∀ (g2 : Nat) W1, Below W.heap.size W W1 → Own W1 g2 m (lf (rooE f l r m)) → Calls Tryd.prog 74 #[.int .i64 f, .slice (some ⟨g, 0, none⟩) m m, .slice (some ⟨g2, 0, none⟩) m m, .int .i64 (mPower f 2 (-1))] W1 (fun e w' => ∃ g3, e = .returned (.slice (some ⟨g3, 0, none⟩) m m) ∧ W1.heap.size ≤ g3 ∧ Own w' g3 m (lf (rooR f l r m)) ∧ Below W1.heap.size W1 w')) := Lib.hid fun g2 W1 hb1 o2 =>
    (mixed_c f (mPower f 2 (-1)) _ _ m m m (lf r) _ W1 (ht.below hb1) h0 h8 h2i.1 h2i.2 m1 (by omega) hb (elL_ser h0 h8 _ _).2 (ho.src.keep hb1) o2.src).mono fun _ _ h => h.as (elL_len _ _ _)
  have HPR : Hid (∀ W1, Below W.heap.size W W1 → Calls Tryd.prog 75 #[.int .i64 f] W1 fun e w' => e = .returned (.int .i64 (P f)) ∧ W1 = w') := Lib.hid fun W1 hb => prime_c f W1 (ht.below hb) h0 h8
  have HIV : Hid (∀ W1, Below W.heap.size W W1 → Calls Tryd.prog 76 #[.int .i64 f, .int .i64 2] W1 fun e w' => e = .returned (.int .i64 (mPower f 2 (-1))) ∧ W1 = w') := Lib.hid fun W1 hb => inverseM_c f 2 W1 (ht.below hb) h0 h8 (by omega) (by omega)
  have HF : Hid (∀ (g3 : Nat) (W' : World), W.heap.size ≤ g3 → Own W' g3 m (lf (rooR f l r m)) → Below W.heap.size W W' → ∃ r' : List Int, r'.length = m ∧ RQ f l r' ∧ OwnG W r' (.returned (.slice (some ⟨g3, 0, none⟩) m m)) W') := Lib.hid fun g3 W' hg3 o3 hb => ⟨_, elL_len _ _ _, HST.out, OwnG.mk' (elL_len _ _ _) hg3 o3 hb⟩
  have m0' : (0 : Int) < m := by omega
  have q1 : IntKind.i64.wrap (P f - 1) = P f - 1 := IntWalk.i64_in _ (by omega)
  have b0 : Below W.heap.size W W.drew := ⟨rfl, rfl, rfl, Nat.le_refl _, fun _ _ => rfl⟩
  have k0 : BoxP f (.slice (some ⟨b, off, none⟩) l.length cap) B1 B2 W.drew := hk
  clear hs hl ho HST ht hm2 r1 hb hz hso ep hV hrm
  generalize lf (rooV f r m) = V at *
  generalize lf (rooQ f l r m) = Q at *
  generalize lf (rooE f l r m) = E at *
  generalize lf (rooR f l r m) = R at *
  generalize mPower f 2 (-1) = H at *
  generalize l.length = n at *
  go_enter Tryd.func73, Tryd.ntmps73
  go_wp2_with fail
  go_region_held3 (fun W1 => W1.cell? ⟨B1, 0, none⟩ = some (.int .i64 f) ∧ W1.cell? ⟨B2, 0, none⟩ = some (.slice (some ⟨b, off, none⟩) n cap))
    (first | exact hk | exact k0 | exact k1 | exact k2 | go_keep)
    (first
      | (go_at_call 71; refine (P0.out _ b0).mono ?_; rintro e w1 ⟨g1, rfl, hg1, o1, b1⟩; have b2 := below_up b0 b1 b0.size; have k1 := hk.keep b2 l1 l2)
      | (go_at_call 66; refine (P1.out g1 _ b2 o1).mono ?_; rintro e w2 ⟨g2, rfl, hg2, o2, b3⟩; have b4 := below_up b2 b3 b2.size; have k2 := hk.keep b4 l1 l2))
  have HO2 := Lib.hid o2
  clear o1 o2 b1 b2 b3 k1 P0 P1
  go_wp2_with fail
  have b5 := b4.drew
  have k3 : BoxP f (.slice (some ⟨b, off, none⟩) n cap) B1 B2 w2.drew := k2
  have o3 : Own w2.drew g2 m Q := HO2.out
  go_region_held3 (fun W1 => W1.cell? ⟨B1, 0, none⟩ = some (.int .i64 f))
    (first | exact k2.1 | exact k3.1 | exact k4.1 | go_keep)
    (first
      | (go_at_call 75; refine (HPR.out _ b5).mono ?_; rintro e w' ⟨rfl, rfl⟩)
      | (go_at_call 74; refine (P2.out g2 _ b5 o3).mono ?_; rintro e w4 ⟨g3, rfl, hg3, o4, b6⟩; have b7 := below_up b5 b6 b5.size; have k4 := hk.keep b7 l1 l2))
  have HO4 := Lib.hid o4
  clear o3 o4 b6 P2
  go_wp2_with fail
  have b8 := b7.drew
  have k5 : BoxP f (.slice (some ⟨b, off, none⟩) n cap) B1 B2 w4.drew := k4
  have o5 : Own w4.drew g3 m E := HO4.out
  go_region_held3 (fun W1 => W1.cell? ⟨B1, 0, none⟩ = some (.int .i64 f))
    (first | exact k4.1 | exact k5.1 | exact k6.1 | go_keep)
    (first
      | (go_at_call 76; refine (HIV.out _ b8).mono ?_; rintro e w' ⟨rfl, rfl⟩)
      | (go_at_call 74; refine (P3.out g3 _ b8 o5).mono ?_; rintro e w5 ⟨g4, rfl, hg4, o6, b9⟩; have b10 := below_up b8 b9 b8.size; have k6 := hk.keep b10 l1 l2))
  all_goals
    have HR := Lib.hid (HF.out g4 _ (Nat.le_trans b8.size hg4) o6 b10)
    clear o5 o6
    go_wp2
    go_ret
    exact HR.out
theorem roo_first {f : Int} {l : List Int} (hl : SqrtOk f l) : RQ f l [1] := by
  have h0 := hl.1.1.1
  have h8 := hl.1.1.2
  have hp := P_bd h0 h8
  refine ⟨fun j => ?_, rfl, fun i hi => ?_⟩
  · cases j with
    | zero => show 0 ≤ (1 : Int) ∧ (1 : Int) < P f; omega
    | succ j => show 0 ≤ (0 : Int) ∧ (0 : Int) < P f; omega
  · have hi' : i < 1 := hi
    obtain rfl : i = 0 := by omega
    show cv 0 (lf [1]) (lf [1]) % P f = lf l 0 % P f
    have e : lf l 0 = 1 := hl.2
    rw [cv_ipar, e]
    rfl
theorem RQ.root {f : Int} {l r : List Int} (hl : SqrtOk f l) (hr : r.length = l.length) (hq : RQ f l r) : r = sqrtL f l :=
  (sqrtL_eq hl.1 ⟨⟨hr, hq.1⟩, hq.2.1, by have := hq.2.2; rwa [hr] at this⟩).symm
set_option maxRecDepth 100000 in
set_option maxHeartbeats 1600000 in
theorem squareRoot_c (f : Int) (a : Option Addr) (l : List Int) (cap : Nat) (w : World) (ht : Tab w) (h : SqrtOk f l) (hcap : l.length ≤ cap) (hs : Src w a l.length (lf l)) :
    Calls Tryd.prog 46 #[.int .i64 f, .slice a l.length cap] w (OwnG w (sqrtL f l)) := by
  have n1 := h.1.2.1
  obtain ⟨b, off, rfl, hlt, hc⟩ : ∃ b off, a = some ⟨b, off, none⟩ ∧ b < w.heap.size ∧ ∀ j, j < l.length → w.cell? ⟨b, off + j, none⟩ = some (.int .i64 (lf l j)) := by
    rcases hs with hq | hq
    · omega
    · exact hq
  have hs : Src w (some ⟨b, off, none⟩) l.length (lf l) := .inr ⟨b, off, rfl, hlt, hc⟩
  have HGR : Hid (∀ W, Below w.heap.size w W → BoxP f (.slice (some ⟨b, off, none⟩) l.length cap) w.heap.size (w.heap.size + 1) W → Calls Tryd.prog 72 #[.int .i64 1, .int .i64 l.length, .func (.func 73) #[] #[.pointer (some ⟨w.heap.size, 0, none⟩), .pointer (some ⟨w.heap.size + 1, 0, none⟩)]] W (OwnG W (sqrtL f l))) := Lib.hid fun W hb hk => by
    have l2 := cell_lt hk.2
    refine (grown_c 73 (enters_of Tryd.func73 (by kernel_rfl) rfl) _ _ 1 l.length (RQ f l) W n1.1 (by omega) (roo_first h) fun W2 g m r hb2 hg r1 hrm hm2 hmn hq ho => ?_).mono ?_
    · have hb3 := below_up hb hb2 hb.size
      exact rooStep_c f w.heap.size (w.heap.size + 1) b off cap g m l r W2 (ht.below hb3) h (hk.keep hb2 (by omega) l2) hmn hcap (hs.keep hb3) r1 hrm hm2 hq ho
    · rintro e W' ⟨r, hr, hq, ho⟩
      rwa [hq.root h hr] at ho
  have BA : ∀ o1 o2, Below w.heap.size w ((w.alloc o1).alloc o2) := fun o1 o2 => ((Below.refl _ _).alloc (Nat.le_refl _) o1).alloc (by simp) o2
  have HOG : Hid (∀ e W W', Below w.heap.size w W → OwnG W (sqrtL f l) e W' → OwnG w (sqrtL f l) e W') := Lib.hid fun e W W' hb ho => ho.up hb
  clear h hs hc ht n1
  generalize sqrtL f l = R at *
  generalize l.length = n at *
  have kb := box_new f (.slice (some ⟨b, off, none⟩) n cap) w 44 22
  have bb := BA (.cells #[.int .i64 f] 44) (.cells #[.slice (some ⟨b, off, none⟩) n cap] 22)
  go_enter Tryd.func46, Tryd.ntmps46
  go_wp2_with fail
  generalize ((w.alloc (.cells #[.int .i64 f] 44)).alloc (.cells #[.slice (some ⟨b, off, none⟩) n cap] 22)) = W1 at *
  refine (HGR.out _ bb kb).mono ?_
  intro e w4 h4
  have HR := Lib.hid (HOG.out e _ w4 bb h4)
  obtain ⟨g4, rfl, _⟩ := h4
  go_wp2
  go_ret
  exact HR.out
end Go.Proofs.YtmgggdibbhameabDoor
namespace Go.Proofs.YtmgggdibbhameabDoor
open Go.RowKit
theorem lf_one : lf [1] = oneS := by
  funext j
  cases j with
  | zero => rfl
  | succ j => simp [lf, oneS]
theorem one_cut : cutL 1 (fun _ => (1 : Int)) = [1] := rfl
theorem pol_one {f : Int} (h0 : 0 ≤ f) (h8 : f ≤ 8) : Pol f [1] := by
  have hp := P_bd h0 h8
  rw [← one_cut]
  exact Pol.cut (by omega) fun _ _ => by omega
theorem src_one (w : World) (x : Int) : Src (w.alloc (.cells #[.int .i64 x] 3)) (some ⟨w.heap.size, 0, none⟩) 1 (fun _ => x) :=
  .inr ⟨w.heap.size, 0, rfl, by simp, fun j hj => by
    obtain rfl : j = 0 := by omega
    rw [World.cell?_alloc_at _ _ _ _ rfl]; rfl⟩
set_option maxRecDepth 100000 in
set_option maxHeartbeats 3200000 in
theorem pow_c (f e0 : Int) (a a2 : Option Addr) (l m : List Int) (cap cap2 : Nat) (w : World) (ht : Tab w) (h0 : 0 ≤ f) (h8 : f ≤ 8) (hn : l.length ≤ 400) (hn2 : m.length ≤ 400) (hz : m.length ≠ 0) (he0 : 0 ≤ e0) (he1 : e0 ≤ 1000000) (hl : Pol f l) (hm : Pol f m) (hs : Src w a l.length (lf l)) (hs2 : Src w a2 m.length (lf m)) :
    Calls Tryd.prog 90 #[.int .i64 f, .slice a l.length cap, .int .i64 e0, .slice a2 m.length cap2] w (OwnG w (powL f l e0.toNat m)) := by
  have HS := Lib.hid hs
  have HS2 := Lib.hid hs2
  have HPL := Lib.hid hl
  have HPM := Lib.hid hm
  have HU : Hid (∀ r s, PowAt f m (lf l) e0.toNat 0 r s → powL f l e0.toNat m = r) := Lib.hid fun r s h => powL_eq h0 h8 hm h.last
  have HST : Hid (PowAt f m (lf l) e0.toNat e0.toNat (remL f [1] m) (remL f l m)) := Lib.hid (PowAt.first (by have := remL_is h0 h8 (pol_one h0 h8) hm hz; rwa [lf_one] at this) (remL_is h0 h8 hl hm hz))
  have BA : Hid (∀ o, Below w.heap.size w (w.alloc o)) := Lib.hid fun o => (Below.refl _ _).alloc (Nat.le_refl _) o
  clear hs hs2 hl hm
  obtain ⟨E, hE⟩ : ∃ E, e0.toNat = E := ⟨_, rfl⟩
  rw [hE] at HU HST ⊢
  have HEE := Lib.hid hE
  clear hE
  have HPO := Lib.hid (poly_c (some ⟨w.heap.size, 0, none⟩) 1 1 (fun _ => 1) (w.alloc (.cells #[.int .i64 1] 3)) (by omega) (src_one w 1))
  rw [one_cut] at HPO
  go_enter Tryd.func90, Tryd.ntmps90
  go_wp2_with fail
  refine HPO.out.mono ?_
  rintro e w1 ho1
  obtain ⟨g1, rfl, hg1, hO1, hb1⟩ := ho1.up (BA.out _)
  have HD1 := Lib.hid (remainder_c f (some ⟨g1, 0, none⟩) a2 [1] m 1 cap2 w1 (ht.below hb1) h0 h8 (by show 1 ≤ 4096; omega) (by omega) hz (pol_one h0 h8) HPM.out hO1.src (HS2.out.keep hb1))
  clear ho1 hO1 HPO
  go_wp2_with fail
  refine HD1.out.mono ?_
  rintro e w2 ⟨g2, rfl, hg2, hO2, hb2⟩
  have hb2' := below_up hb1 hb2 hb1.size
  have HD2 := Lib.hid (remainder_c f a a2 l m cap cap2 w2 (ht.below hb2') h0 h8 (by omega) (by omega) hz HPL.out HPM.out (HS.out.keep hb2') (HS2.out.keep hb2'))
  have HO2 := Lib.hid hO2
  clear hO2 HD1
  go_wp2_with fail
  refine HD2.out.mono ?_
  rintro e w3 ⟨g3, rfl, hg3, hO3, hb3⟩
  have HB3 := Lib.hid (below_up hb2' hb3 hb2'.size)
  have HO3 := Lib.hid (HO2.out.keep hb3)
  have HS3 := Lib.hid hO3.src
  have hgw : w.heap.size ≤ g2 := Nat.le_trans hb1.size hg2
  clear hO3 HO2 HD2 hb1 hb2 hb2' hb3
  go_wp2_with fail
  go_loopw [2, 9, 10] (fun ve vr vs wr => ∃ (k : Int) (r s : List Int) (gr : Nat) (sa : Option Addr) (cs : Nat), ve = .int .i64 k ∧ vr = .slice (some ⟨gr, 0, none⟩) r.length r.length ∧ vs = .slice sa s.length cs ∧ w.heap.size ≤ gr ∧ Own wr gr r.length (lf r) ∧ Src wr sa s.length (lf s) ∧ 0 ≤ k ∧ k ≤ 1000000 ∧ PowAt f m (lf l) E k.toNat r s ∧ Below w.heap.size w wr) (fun ve _ _ _ => (intOf ve).toNat)
  case atStart => exact ⟨e0, _, _, g2, _, _, rfl, rfl, rfl, hgw, HO3.out, HS3.out, he0, he1, by rw [HEE.out]; exact HST.out, HB3.out⟩
  case round =>
    clear HO3 HS3 HST HB3
    obtain ⟨k, r, s, gr, sa, cs, rfl, rfl, rfl, hgr, hor, hss, k0, k1, hat, hb⟩ := hrel
    have pr := hat.1.1
    have lr := hat.1.2
    have ps := hat.2.1.1
    have ls := hat.2.1.2
    by_cases hk : 0 < k
    · by_cases h2 : k % 2 = 1
      · have HM1 := Lib.hid (product_c f (some ⟨gr, 0, none⟩) sa r s r.length cs wr (ht.below hb) h0 h8 (by omega) (by omega) pr ps hor.src hss)
        have LM1 : (mulL f r s).length ≤ 4096 := by have := mulL_le f r s; omega
        have HPM1 : Hid (Pol f (mulL f r s)) := Lib.hid (pol_mulL h0 h8 r s)
        have HR1 : Hid (IsRem f (lf (mulL f r s)) m (remL f (mulL f r s) m)) := Lib.hid (remL_is h0 h8 HPM1.out HPM.out hz)
        have LM2 : (mulL f s s).length ≤ 4096 := by have := mulL_le f s s; omega
        have HPM2 : Hid (Pol f (mulL f s s)) := Lib.hid (pol_mulL h0 h8 s s)
        have HR2 : Hid (IsRem f (lf (mulL f s s)) m (remL f (mulL f s s) m)) := Lib.hid (remL_is h0 h8 HPM2.out HPM.out hz)
        have HN : Hid (PowAt f m (lf l) E (k / 2).toNat (remL f (mulL f r s) m) (remL f (mulL f s s) m)) := Lib.hid (by rw [show (k / 2).toNat = k.toNat / 2 by omega]; exact hat.odd (by omega) HR1.out HR2.out)
        have e2 : (k % 2 == 1) = true := by simp [h2]
        have HSS := Lib.hid hss
        have HPS := Lib.hid ps
        clear h2 hat hor hss pr ps
        go_wp2_with fail
        refine HM1.out.mono ?_
        rintro e w3 ⟨g3, rfl, hg3, ho3, hb3⟩
        have hb3' := below_up hb hb3 hb.size
        have HD1 := Lib.hid (remainder_c f (some ⟨g3, 0, none⟩) a2 (mulL f r s) m (mulL f r s).length cap2 w3 (ht.below hb3') h0 h8 LM1 (by omega) hz HPM1.out HPM.out ho3.src (HS2.out.keep hb3'))
        clear ho3 HM1
        go_wp2_with fail
        refine HD1.out.mono ?_
        rintro e w4 ⟨g4, rfl, hg4, ho4, hb4⟩
        have hb4' := below_up hb3' hb4 hb3'.size
        have hs4 := HSS.out.keep (below_up hb3 hb4 hb3.size)
        have HM2 := Lib.hid (product_c f sa sa s s cs cs w4 (ht.below hb4') h0 h8 (by omega) (by omega) HPS.out HPS.out hs4 hs4)
        have HO4 := Lib.hid ho4
        clear ho4 HD1 hs4
        go_wp2_with fail
        refine HM2.out.mono ?_
        rintro e w5 ⟨g5, rfl, hg5, ho5, hb5⟩
        have hb5' := below_up hb4' hb5 hb4'.size
        have HD2 := Lib.hid (remainder_c f (some ⟨g5, 0, none⟩) a2 (mulL f s s) m (mulL f s s).length cap2 w5 (ht.below hb5') h0 h8 LM2 (by omega) hz HPM2.out HPM.out ho5.src (HS2.out.keep hb5'))
        have HO5 := Lib.hid (HO4.out.keep hb5)
        clear ho5 HM2 HO4
        go_wp2_with fail
        refine HD2.out.mono ?_
        rintro e w6 ⟨g6, rfl, hg6, ho6, hb6⟩
        have HB6 := Lib.hid (below_up hb5' hb6 hb5'.size)
        have HS6 := Lib.hid ho6.src
        have HO6 := Lib.hid (HO5.out.keep hb6)
        have hgw : w.heap.size ≤ g4 := Nat.le_trans hb3'.size hg4
        clear ho6 HD2 HO5
        go_wp2
        go_roundw
        case rel => exact ⟨k / 2, _, _, g4, _, _, rfl, rfl, rfl, hgw, HO6.out, HS6.out, by omega, by omega, HN.out, HB6.out⟩
        case measure => simp [intOf] <;> omega
      · have LM2 : (mulL f s s).length ≤ 4096 := by have := mulL_le f s s; omega
        have HPM2 : Hid (Pol f (mulL f s s)) := Lib.hid (pol_mulL h0 h8 s s)
        have HR2 : Hid (IsRem f (lf (mulL f s s)) m (remL f (mulL f s s) m)) := Lib.hid (remL_is h0 h8 HPM2.out HPM.out hz)
        have HN : Hid (PowAt f m (lf l) E (k / 2).toNat r (remL f (mulL f s s) m)) := Lib.hid (by rw [show (k / 2).toNat = k.toNat / 2 by omega]; exact hat.even (by omega) HR2.out)
        have e2 : (k % 2 == 1) = false := by simp [h2]
        have HM2 := Lib.hid (product_c f sa sa s s cs cs wr (ht.below hb) h0 h8 (by omega) (by omega) ps ps hss hss)
        have HOR := Lib.hid hor
        clear h2 hat hor hss pr ps
        go_wp2_with fail
        refine HM2.out.mono ?_
        rintro e w5 ⟨g5, rfl, hg5, ho5, hb5⟩
        have hb5' := below_up hb hb5 hb.size
        have HD2 := Lib.hid (remainder_c f (some ⟨g5, 0, none⟩) a2 (mulL f s s) m (mulL f s s).length cap2 w5 (ht.below hb5') h0 h8 LM2 (by omega) hz HPM2.out HPM.out ho5.src (HS2.out.keep hb5'))
        have HO5 := Lib.hid (HOR.out.keep hb5)
        clear ho5 HM2 HOR
        go_wp2_with fail
        refine HD2.out.mono ?_
        rintro e w6 ⟨g6, rfl, hg6, ho6, hb6⟩
        have HB6 := Lib.hid (below_up hb5' hb6 hb5'.size)
        have HS6 := Lib.hid ho6.src
        have HO6 := Lib.hid (HO5.out.keep hb6)
        clear ho6 HD2 HO5
        go_wp2
        go_roundw
        case rel => exact ⟨k / 2, _, _, gr, _, _, rfl, rfl, rfl, hgr, HO6.out, HS6.out, by omega, by omega, HN.out, HB6.out⟩
        case measure => simp [intOf] <;> omega
    · obtain rfl : k = 0 := by omega
      have HE : Hid (powL f l E m = r) := Lib.hid (HU.out r s hat)
      have HO := Lib.hid hor
      clear hat hor hss pr ps
      go_wp2
      go_ret
      rw [HE.out]
      exact ⟨gr, rfl, hgr, HO.out, hb⟩
end Go.Proofs.YtmgggdibbhameabDoor
namespace Go.Proofs.YtmgggdibbhameabDoor
open Go.RowKit
theorem xs_zero (n : Nat) : (madeCells #[.int .i64 0] n).toList = xsF (fun _ => 0) n := by
  refine List.ext_getElem? fun j => ?_
  by_cases hj : j < n
  · have h := World.rowIs_made default (.int .i64 0) n 3
    obtain ⟨cur, h1, h2, h3⟩ := h
    have e : cur = madeCells #[.int .i64 0] n := by
      have h5 : ((default : World).alloc (.cells (madeCells #[.int .i64 0] n) 3)).heap[(default : World).heap.size]? = some (.cells (madeCells #[.int .i64 0] n) 3) := by unfold World.alloc; simp
      rw [h5] at h1
      injection h1 with h1
      injection h1 with h1
      exact h1.symm
    subst e
    have := h3 j hj
    rw [Array.getElem?_toList, this]
    simp [xsF, hj]
  · rw [List.getElem?_eq_none (by rw [made_len]; omega), List.getElem?_eq_none (by rw [xsF_len]; omega)]
theorem own_zeros (w : World) (n : Nat) (hn : n ≤ 1048576) : (w.alloc (.cells (madeCells #[.int .i64 0] n) 3)).ownsRow w.heap.size 3 1 (.slice (some ⟨w.heap.size, 0, none⟩) n n) n (xsF (fun _ => 0) n) := by
  rw [← xs_zero]
  exact World.ownsRow_lit w (madeCells #[.int .i64 0] n) n (Nat.le_refl _) (by unfold maxLen; omega) (by rw [size_madeCells]; omega)
theorem xs_xn (n : Nat) : xsF (fun _ => 0) n ++ [.int .i64 1] = xsF (lf (xnL n)) (n + 1) := by
  rw [xs_more]
  refine xsF_congr fun j hj => ?_
  unfold xnL
  rw [lf_tab, if_pos hj]
  by_cases e : j < n
  · rw [more_lo e, if_neg (by omega)]
  · obtain rfl : j = n := by omega
    rw [more_at, if_pos rfl]
set_option maxRecDepth 100000 in
set_option maxHeartbeats 1600000 in
theorem raised_c (f e : Int) (a : Option Addr) (l : List Int) (cap : Nat) (w : World) (ht : Tab w) (h : SerOk f l) (e0 : 0 ≤ e) (e1 : e ≤ 1000000) (hs : Src w a l.length (lf l)) :
    Calls Tryd.prog 70 #[.int .i64 f, .slice a l.length cap, .int .i64 e] w (OwnG w (elL f l.length (powS (lf l) e.toNat))) := by
  have h0 := h.1.1
  have h8 := h.1.2
  have hp := P_bd h0 h8
  have n1 := h.2.1
  have hpp := pow_pad h0 h8 h.ser n1.1 e.toNat
  have hpol : Pol f (cutL l.length (lf l)) := Pol.cut (by omega) fun j _ => h.all j
  have hcl := cutL_le l.length (lf l)
  have P1 : Hid (∀ W, Below w.heap.size w W → Calls Tryd.prog 91 #[.slice a l.length cap] W (OwnG W (cutL l.length (lf l)))) := Lib.hid fun W hb => poly_c a l.length cap (lf l) W (by omega) (hs.keep hb)
  have P2 : Hid (∀ (g : Nat) (a2 : Option Addr) (cap2 : Nat) W, Below w.heap.size w W → Own W g (cutL l.length (lf l)).length (lf (cutL l.length (lf l))) → Src W a2 (l.length + 1) (lf (xnL l.length)) → Calls Tryd.prog 90 #[.int .i64 f, .slice (some ⟨g, 0, none⟩) (cutL l.length (lf l)).length (cutL l.length (lf l)).length, .int .i64 e, .slice a2 (l.length + 1) cap2] W (OwnG W (powL f (cutL l.length (lf l)) e.toNat (xnL l.length)))) := Lib.hid fun g a2 cap2 W hb o1 s2 => by
    have := pow_c f e (some ⟨g, 0, none⟩) a2 (cutL l.length (lf l)) (xnL l.length) (cutL l.length (lf l)).length cap2 W (ht.below hb) h0 h8 (by omega) (by rw [xnL_len]; omega) (by rw [xnL_len]; omega) e0 e1 hpol (pol_xn h0 h8 _) o1.src (by rw [xnL_len]; exact s2)
    rwa [xnL_len] at this
  have P3 : Hid (∀ (g : Nat) W, Own W g (powL f (cutL l.length (lf l)) e.toNat (xnL l.length)).length (lf (powL f (cutL l.length (lf l)) e.toNat (xnL l.length))) → Calls Tryd.prog 89 #[.slice (some ⟨g, 0, none⟩) (powL f (cutL l.length (lf l)) e.toNat (xnL l.length)).length (powL f (cutL l.length (lf l)) e.toNat (xnL l.length)).length, .int .i64 l.length] W (OwnG W (elL f l.length (powS (lf l) e.toNat)))) := Lib.hid fun g W o1 => by
    have := padded_c (some ⟨g, 0, none⟩) (powL f (cutL l.length (lf l)) e.toNat (xnL l.length)) (powL f (cutL l.length (lf l)) e.toNat (xnL l.length)).length l.length W hpp.1 (by omega) o1.src
    rwa [hpp.2] at this
  obtain ⟨i0, hi, hz0, hz1, hz2⟩ := info_parts info3
  have HI := Lib.hid hi
  have HZ0 := Lib.hid hz0
  have HZ1 := Lib.hid hz1
  have HZ2 := Lib.hid hz2
  have hmk := made_n l.length (by omega)
  have hown := own_zeros w l.length (by omega)
  have HXN := Lib.hid (xs_xn l.length)
  have bm : Below w.heap.size w (w.alloc (.cells (madeCells #[.int .i64 0] l.length) 3)) := (Below.refl _ _).alloc (Nat.le_refl _) _
  clear h hs hpp hpol hcl hi hz0 hz1 hz2 ht
  generalize powL f (cutL l.length (lf l)) e.toNat (xnL l.length) = PW1 at *
  generalize cutL l.length (lf l) = CL at *
  generalize elL f l.length (powS (lf l) e.toNat) = R at *
  generalize l.length = n at *
  go_enter Tryd.func70, Tryd.ntmps70
  go_wp2_with (at_builtin; refine wpList_append_own _ rfl _ _ 22 rfl w.heap.size 3 i0 (.int .i64 0) 1 8 Tryd.underlying22 HI.out HZ0.out HZ1.out HZ2.out rfl (by decide) _ _ _ rfl (hown.alloc _) ⟨w.heap.size + 1, 0, none⟩ 1 1 [.int .i64 1] rfl rfl ?d1 ?d2 ?d3 ?d4 ?d5 ?_)
  case d1 =>
    intro j u hj
    match j, hj with
    | 0, hj => simp at hj; subst hj; simp [Addr.add]
  case d2 => intro u hu; simp at hu; subst hu; rfl
  case d3 => unfold maxLen; omega
  case d4 => omega
  case d5 => simp; omega
  intro v' w1 hown' hgrow _
  have hbel : Below w.heap.size w w1 := (bm.alloc bm.size _).grown hgrow (by simp; omega) (own_ge hown)
  rw [HXN.out] at hown'
  obtain ⟨a2, cap2, rfl, hcap2, hs2⟩ := src_of_owns2 hown'
  have HS2 := Lib.hid hs2
  clear hgrow hown hown' hmk hs2 bm
  go_wp2_with fail
  refine (P1.out w1 hbel).mono ?_
  rintro e w2 ⟨g2, rfl, hg2, o2, b2⟩
  have HO2 := Lib.hid o2
  have b3 := below_up hbel b2 hbel.size
  have HS3 := Lib.hid (HS2.out.keep b2)
  clear o2 P1 HS2 b2
  go_wp2_with fail
  refine (P2.out g2 a2 cap2 w2 b3 HO2.out HS3.out).mono ?_
  rintro e w3 ⟨g3, rfl, hg3, o3, b4⟩
  have HO3 := Lib.hid o3
  have b5 := below_up b3 b4 b3.size
  clear o3 P2 HO2 HS3 b3 b4
  go_wp2_with fail
  refine (P3.out g3 w3 HO3.out).mono ?_
  intro e w4 h4
  have HR := Lib.hid (h4.up b5)
  obtain ⟨g4, rfl, _⟩ := h4
  clear HO3 P3
  go_wp2
  go_ret
  exact HR.out
theorem inS_next (A X : Nat → Int) (t k : Nat) : inS (fun x => A (t + x)) X (k + 1) = addS (fun j => A t * oneS j) (mulS X (inS (fun x => A (t + 1 + x)) X k)) := by
  rw [inS_horner]
  have e : tl (fun x => A (t + x)) = fun x => A (t + 1 + x) := funext fun x => by
    show A (t + (x + 1)) = A (t + 1 + x)
    rw [show t + (x + 1) = t + 1 + x by omega]
  rw [e]
  rfl
/-- Horner's step. -/
theorem horner_step {f : Int} {n t : Nat} {A X O : Nat → Int} (hX : X 0 = 0) (ht : t + 1 ≤ n) (h : EqN (P f) n O (inS (fun x => A (t + 1 + x)) X (n - (t + 1)))) : EqN (P f) n (fun x => if x = 0 then A t else lf (elL f n (mulS O X)) x) (inS (fun x => A (t + x)) X (n - t)) := by
  rw [show n - t = n - (t + 1) + 1 by omega, inS_next]
  intro i hi
  show (if i = 0 then A t else lf (elL f n (mulS O X)) i) % P f = (A t * oneS i + mulS X (inS (fun x => A (t + 1 + x)) X (n - (t + 1))) i) % P f
  by_cases e : i = 0
  · subst e
    have hz : mulS X (inS (fun x => A (t + 1 + x)) X (n - (t + 1))) 0 = 0 := by
      show cv 0 X _ = 0
      rw [cv_ipar, hX]
      simp [ipar, sumN]
    rw [if_pos rfl, hz]
    show A t % P f = (A t * 1 + 0) % P f
    rw [Int.mul_one, Int.add_zero]
  · have ho : oneS i = 0 := if_neg e
    rw [if_neg e, ho, Int.mul_zero, Int.zero_add, elL_eq n _ i hi, mul_commS O X]
    exact (EqN.mull X h) i hi
set_option maxRecDepth 100000 in
set_option maxHeartbeats 1600000 in
theorem substituted_c (f : Int) (a a2 : Option Addr) (l m : List Int) (cap cap2 : Nat) (w : World) (ht : Tab w) (h : IntoOk f l m) (hcap2 : m.length ≤ cap2) (hs : Src w a l.length (lf l)) (hs2 : Src w a2 m.length (lf m)) :
    Calls Tryd.prog 50 #[.int .i64 f, .slice a l.length cap, .slice a2 m.length cap2] w (OwnG w (intoL f l m)) := by
  have h0 := h.1.2.1.1.1
  have h8 := h.1.2.1.1.2
  have hp := P_bd h0 h8
  have n1 := h.1.2.1.2.1
  have hX0 : lf m 0 = 0 := h.2
  obtain ⟨b, off, rfl, hlt, hc⟩ : ∃ b off, a = some ⟨b, off, none⟩ ∧ b < w.heap.size ∧ ∀ j, j < l.length → w.cell? ⟨b, off + j, none⟩ = some (.int .i64 (lf l j)) := by
    rcases hs with hq | hq
    · omega
    · exact hq
  have HC := Lib.hid hc
  rw [← h.1.1] at hs2 hcap2 ⊢
  have HPR : Hid (∀ (g : Nat) (O : Nat → Int) W, Below w.heap.size w W → (∀ j, 0 ≤ O j ∧ O j < P f) → Own W g l.length O → Calls Tryd.prog 66 #[.int .i64 f, .slice (some ⟨g, 0, none⟩) l.length l.length, .slice a2 l.length cap2] W (fun e w' => ∃ g1, e = .returned (.slice (some ⟨g1, 0, none⟩) l.length l.length) ∧ W.heap.size ≤ g1 ∧ Own w' g1 l.length (lf (elL f l.length (mulS O (lf m)))) ∧ Below W.heap.size W w')) := Lib.hid fun g O W hb hO o1 =>
    (sprod_c f _ _ l.length l.length cap2 O (lf m) W (ht.below hb) h0 h8 n1.1 (by omega) hcap2 hO h.1.2.2.all o1.src (hs2.keep hb)).mono fun _ _ h => h.as (elL_len _ _ _)
  have HST : Hid (∀ (t : Nat) (O : Nat → Int), t + 1 ≤ l.length → EqN (P f) l.length O (inS (fun x => lf l (t + 1 + x)) (lf m) (l.length - (t + 1))) → EqN (P f) l.length (fun x => if x = 0 then lf l t else lf (elL f l.length (mulS O (lf m))) x) (inS (fun x => lf l (t + x)) (lf m) (l.length - t))) := Lib.hid fun t O h1 h2 => horner_step hX0 h1 h2
  have HSR : Hid (∀ (O : Nat → Int) j, 0 ≤ lf (elL f l.length (mulS O (lf m))) j ∧ lf (elL f l.length (mulS O (lf m))) j < P f) := Lib.hid fun O => (elL_ser h0 h8 _ _).2
  have HLB := Lib.hid h.1.2.1.all
  have HF : Hid (∀ (g : Nat) (O : Nat → Int) W, w.heap.size ≤ g → Own W g l.length O → (∀ j, 0 ≤ O j ∧ O j < P f) → EqN (P f) l.length O (inS (fun x => lf l (0 + x)) (lf m) (l.length - 0)) → Below w.heap.size w W → OwnG w (intoL f l m) (.returned (.slice (some ⟨g, 0, none⟩) l.length l.length)) W) := Lib.hid fun g O W hg ho hO hE hb => by
    refine OwnG.of_own ho (elL_len _ _ _).symm hg (fun j hj => ?_) hb
    have e : (fun x => lf l (0 + x)) = lf l := funext fun x => by rw [Nat.zero_add]
    rw [e, Nat.sub_zero] at hE
    unfold intoL
    rw [lf_elL, if_pos hj]
    unfold RS
    rw [← hE j hj, Int.emod_eq_of_lt (hO j).1 (hO j).2]
  have hmk := made_n l.length (by omega)
  have HMZ : Hid (Own (w.alloc (.cells (madeCells #[.int .i64 0] l.length) 3)) w.heap.size l.length (fun _ => 0)) := Lib.hid ((World.rowIs_made w (.int .i64 0) l.length 3).congr fun j _ => rfl)
  have q1 : IntKind.i64.wrap ((l.length : Int) - 1) = (l.length : Int) - 1 := IntWalk.i64_in _ (by omega)
  clear h hs hs2 hc ht hX0
  generalize lf m = X at *
  generalize intoL f l m = R at *
  generalize lf l = A at *
  generalize l.length = n at *
  go_enter Tryd.func50, Tryd.ntmps50
  go_wp2_with fail
  clear hmk
  go_loopw [7, 8] (fun v i wr => ∃ (y : Int) (j g : Nat) (O : Nat → Int), i = .int .i64 y ∧ y = (j : Int) - 1 ∧ j ≤ n ∧ v = .slice (some ⟨g, 0, none⟩) n n ∧ w.heap.size ≤ g ∧ Own wr g n O ∧ Hid (∀ x, 0 ≤ O x ∧ O x < P f) ∧ Hid (EqN (P f) n O (inS (fun x => A (j + x)) X (n - j))) ∧ Below w.heap.size w wr) (fun _ i _ => (intOf i + 1).toNat)
  case atStart =>
    refine ⟨(n : Int) - 1, n, w.heap.size, fun _ => 0, rfl, rfl, Nat.le_refl _, rfl, Nat.le_refl _, HMZ.out, Lib.hid fun _ => ?_, Lib.hid fun i hi => ?_, (Below.refl _ _).alloc (Nat.le_refl _) _⟩
    · show (0 : Int) ≤ 0 ∧ (0 : Int) < P f; omega
    · rw [Nat.sub_self]; rfl
  case round =>
    clear HMZ q1
    obtain ⟨y, j, g, O, rfl, hy, hj, rfl, hg, ho, HO, HE, hb⟩ := hrel
    by_cases h1 : j = 0
    · subst h1
      obtain rfl : y = -1 := by omega
      clear hy
      have hd : decide ((0 : Int) ≤ -1) = false := by decide
      have HFF := Lib.hid (HF.out g O wr hg ho HO.out HE.out hb)
      clear ho
      go_wp2
      go_ret
      exact HFF.out
    · obtain ⟨t, rfl⟩ : ∃ t, j = t + 1 := ⟨j - 1, by omega⟩
      obtain rfl : y = (t : Int) := by omega
      clear hy
      have hd : decide ((0 : Int) ≤ (t : Int)) = true := decide_eq_true (by omega)
      have HP1 := Lib.hid (HPR.out g O wr hb HO.out ho)
      have HE2 := Lib.hid (HST.out t O hj HE.out)
      have HS2 := Lib.hid (HSR.out O)
      have q2 : IntKind.i64.wrap ((t : Int) - 1) = (t : Int) - 1 := IntWalk.i64_in _ (by omega)
      clear ho HE HO
      generalize lf (elL f n (mulS O X)) = O2 at *
      go_wp2_with fail
      refine HP1.out.mono ?_
      rintro e w2 ⟨g2, rfl, hg2, o2, b2⟩
      have b3 := below_up hb b2 hb.size
      have d1 : w2.cell? ⟨b, off + t, none⟩ = some (.int .i64 (A t)) := (b3.cell (p := ⟨b, off + t, none⟩) hlt).trans (HC.out t (by omega))
      have c1 := World.rowIs.cell o2 (show 0 < n by omega)
      have f1 := World.rowIs.frozen o2 0
      have hlb := HLB.out t
      have ho3 : Own (w2.setCell ⟨g2, 0, none⟩ (.int .i64 (A t))) g2 n (fun x => if x = 0 then A t else O2 x) := (World.rowIs.set o2 0 (.int .i64 (A t))).congr fun j _ => by
        by_cases e : j = 0
        · simp [e]
        · simp [e]
      have HO3 := Lib.hid ho3
      have HB3 : Hid (∀ x, 0 ≤ (if x = 0 then A t else O2 x) ∧ (if x = 0 then A t else O2 x) < P f) := Lib.hid fun x => by
        split
        · exact hlb
        · exact HS2.out x
      have hg3 : w.heap.size ≤ g2 := Nat.le_trans hb.size hg2
      have HB4 := Lib.hid (b3.setCell (p := ⟨g2, 0, none⟩) hg3 (.int .i64 (A t)))
      have htn : (t : Int) < n := by omega
      have hn0 : 0 < n := by omega
      clear o2 ho3 b2 HP1
      go_wp2
      go_roundw
      case rel => exact ⟨(t : Int) - 1, t, g2, _, by go_num, rfl, by omega, rfl, hg3, HO3.out, HB3, HE2, HB4.out⟩
      case measure => simp [intOf] <;> omega
end Go.Proofs.YtmgggdibbhameabDoor
namespace Go.Proofs.YtmgggdibbhameabDoor
open Go.RowKit
/-- 1 or -1, as an element. -/
def sgE (f : Int) (i : Nat) : Int := if i % 2 = 0 then 1 else P f - 1
theorem sgE_next (f : Int) (i : Nat) : P f - sgE f i = sgE f (i + 1) := by
  unfold sgE
  by_cases h : i % 2 = 0
  · rw [if_pos h, if_neg (by omega)]
  · rw [if_neg h, if_pos (by omega)]; omega
theorem sgE_bd {f : Int} (h0 : 0 ≤ f) (h8 : f ≤ 8) (i : Nat) : 0 ≤ sgE f i ∧ sgE f i < P f := by
  have hp := P_bd h0 h8
  unfold sgE
  split <;> omega
theorem sgE_is (f : Int) (i : Nat) : sgE f i % P f = ((-1 : Int)) ^ i % P f := by
  unfold sgE
  by_cases h : i % 2 = 0
  · rw [if_pos h, pow_even h]
  · rw [if_neg h, pow_odd (by omega)]
    rw [show P f - 1 = -1 + P f * 1 by omega, Int.add_mul_emod_self_left]
/-- The signed list. -/
def sgA (f : Int) (A : Nat → Int) (i : Nat) : Int := RS (A i * sgE f i) (P f)
theorem sgA_is (f : Int) (A : Nat → Int) (i : Nat) : sgA f A i % P f = ((-1) ^ i * A i) % P f := by
  unfold sgA RS
  rw [Int.emod_emod_of_dvd _ (Int.dvd_refl _), Int.mul_comm]
  exact emod_mul_congr (sgE_is f i) rfl
def nsum (f : Int) (A O : Nat → Int) (i j : Nat) : Int := RS ((-1) ^ i * (((i + 1 : Nat) : Int) * A i) + npar A O i j) (P f)
theorem nsum_first (f : Int) (A O : Nat → Int) (i : Nat) : RS (RS ((i : Int) + 1) (P f) * sgA f A i) (P f) = nsum f A O i 0 := by
  unfold nsum
  have e : npar A O i 0 = 0 := rfl
  rw [e, Int.add_zero]
  unfold RS
  have h1 : (((i : Int) + 1) % P f * sgA f A i) % P f = (((i : Int) + 1) * ((-1) ^ i * A i)) % P f := emod_mul_congr (Int.emod_emod_of_dvd _ (Int.dvd_refl _)) (sgA_is f A i)
  rw [h1]
  congr 1
  rw [← Int.mul_assoc, Int.mul_comm ((i : Int) + 1), Int.mul_assoc]
  rfl
theorem nsum_next (f : Int) (A O : Nat → Int) (i j : Nat) : RS (nsum f A O i j + RS (sgA f A j * O (i - 1 - j)) (P f)) (P f) = nsum f A O i (j + 1) := by
  unfold nsum
  have e : npar A O i (j + 1) = npar A O i j + (-1) ^ j * (A j * O (i - 1 - j)) := rfl
  rw [rs_plus, e, ← Int.add_assoc]
  unfold RS
  refine emod_add_congr rfl ?_
  have := emod_mul_congr (sgA_is f A j) (show O (i - 1 - j) % P f = O (i - 1 - j) % P f from rfl)
  rw [this, Int.mul_assoc]
/-- A row of k values and one more. -/
def nrow (O : Nat → Int) (k : Nat) (s : Int) : Nat → Int := fun x => if x < k then O x else if x = k then s else 0
theorem nrow_set {w : World} {g n k : Nat} {O : Nat → Int} {s u : Int} (h : Own w g n (nrow O k s)) : Own (w.setCell ⟨g, k, none⟩ (.int .i64 u)) g n (nrow O k u) :=
  (World.rowIs.set h k (.int .i64 u)).congr fun j _ => by
    unfold nrow
    by_cases e : j = k
    · subst e; simp
    · simp [e]
theorem nrow_zero (O : Nat → Int) (k x : Nat) : (if x < k then O x else 0) = nrow O k 0 x := by
  unfold nrow
  split
  · rfl
  · split <;> rfl
theorem nrow_more (O : Nat → Int) (k x : Nat) (s : Int) : nrow O k s x = if x < k + 1 then more O k s x else 0 := by
  unfold nrow more
  by_cases h : x < k
  · rw [if_pos h, if_pos (by omega), if_pos h]
  · rw [if_neg h]
    by_cases e : x = k
    · rw [if_pos e, if_pos (by omega), if_neg h]
    · rw [if_neg e, if_neg (by omega)]
set_option maxRecDepth 100000 in
set_option maxHeartbeats 6400000 in
theorem psums_some (f : Int) (b off n cap : Nat) (A : Nat → Int) (w : World) (ht : Tab w) (h0 : 0 ≤ f) (h8 : f ≤ 8) (hn : n ≤ 4096) (hA : ∀ j, 0 ≤ A j ∧ A j < P f) (hlt : b < w.heap.size) (hc : ∀ j, j < n → w.cell? ⟨b, off + j, none⟩ = some (.int .i64 (A j))) :
    Calls Tryd.prog 52 #[.int .i64 f, .slice (some ⟨b, off, none⟩) n cap] w (fun e w' => ∃ O : Nat → Int, (∀ j, 0 ≤ O j ∧ O j < P f) ∧ IsNewt (P f) n (eS A) O ∧ OwnG w (tab n O) e w') := by
  have HC := Lib.hid hc
  have HA := Lib.hid hA
  have hp := P_bd h0 h8
  have hmk := made_n n (by omega)
  have HSB : Hid (∀ j, 0 ≤ sgA f A j ∧ sgA f A j < P f) := Lib.hid fun j => RS_bd (by omega)
  have HEB : Hid (∀ j, 0 ≤ sgE f j ∧ sgE f j < P f) := Lib.hid fun j => sgE_bd h0 h8 j
  have HNX := Lib.hid (sgE_next f)
  have HNB : Hid (∀ (O : Nat → Int) (i j : Nat), 0 ≤ nsum f A O i j ∧ nsum f A O i j < P f) := Lib.hid fun O i j => RS_bd (by omega)
  have HN1 := Lib.hid (nsum_first f A)
  have HN2 := Lib.hid (nsum_next f A)
  have HST : Hid (∀ (O : Nat → Int) (k : Nat), IsNewt (P f) k (eS A) O → IsNewt (P f) (k + 1) (eS A) (more O k (nsum f A O k k))) := Lib.hid fun O k h => newt_more h
  have HSG0 : Hid (sgE f 0 = 1) := Lib.hid rfl
  have HFIN : Hid (∀ (O : Nat → Int) wr, (∀ j, 0 ≤ O j ∧ O j < P f) → IsNewt (P f) n (eS A) O → Own wr (w.heap.size + 1) n (fun x => if x < n then O x else 0) → Below w.heap.size w wr → ∃ O : Nat → Int, (∀ j, 0 ≤ O j ∧ O j < P f) ∧ IsNewt (P f) n (eS A) O ∧ OwnG w (tab n O) (.returned (.slice (some ⟨w.heap.size + 1, 0, none⟩) n n)) wr) := Lib.hid fun O wr hO hN ho hb => ⟨O, hO, hN, OwnG.of_own ho (tab_len _ _).symm (by omega) (fun j hj => by rw [lf_tab]) hb⟩
  have HO1 : Hid (Own ((w.alloc (.cells (madeCells #[.int .i64 0] n) 3)).alloc (.cells (madeCells #[.int .i64 0] n) 3)) w.heap.size n (fun x => if x < 0 then sgA f A x else 0)) := Lib.hid (by
    have h1 : Own (w.alloc (.cells (madeCells #[.int .i64 0] n) 3)) w.heap.size n (fun x => if x < 0 then sgA f A x else 0) := (World.rowIs_made w (.int .i64 0) n 3).congr fun j _ => by simp
    exact h1.keep ((Below.refl _ _).alloc (Nat.le_refl _) _))
  have HO2 : Hid (∀ O : Nat → Int, Own ((w.alloc (.cells (madeCells #[.int .i64 0] n) 3)).alloc (.cells (madeCells #[.int .i64 0] n) 3)) (w.heap.size + 1) n (fun x => if x < 0 then O x else 0)) := Lib.hid fun O => by
    have h1 := (World.rowIs_made (w.alloc (.cells (madeCells #[.int .i64 0] n) 3)) (.int .i64 0) n 3)
    have e : (w.alloc (.cells (madeCells #[.int .i64 0] n) 3)).heap.size = w.heap.size + 1 := by simp
    rw [e] at h1
    exact h1.congr fun j _ => by simp
  have HB0 : Hid (Below w.heap.size w ((w.alloc (.cells (madeCells #[.int .i64 0] n) 3)).alloc (.cells (madeCells #[.int .i64 0] n) 3))) := Lib.hid (((Below.refl _ _).alloc (Nat.le_refl _) _).alloc (by simp) _)
  have HTB : Hid (∀ W, Below w.heap.size w W → Tab W) := Lib.hid fun W hb => ht.below hb
  clear hc hA ht
  go_enter Tryd.func52, Tryd.ntmps52
  go_wp2_with fail
  clear hmk
  go_loopw [7, 8, 9, 10, 19] (fun sv _ _ _ iv wr => ∃ (i : Nat) (O : Nat → Int), iv = .int .i64 i ∧ i ≤ n ∧ sv = .int .i64 (sgE f i) ∧ Hid (∀ j, 0 ≤ O j ∧ O j < P f) ∧ Hid (IsNewt (P f) i (eS A) O) ∧ Own wr w.heap.size n (fun x => if x < i then sgA f A x else 0) ∧ Own wr (w.heap.size + 1) n (fun x => if x < i then O x else 0) ∧ Below w.heap.size w wr) (fun _ _ _ _ iv _ => n - (intOf iv).toNat)
  case atStart =>
    refine ⟨0, fun _ => 0, rfl, Nat.zero_le _, vint HSG0.out.symm, Lib.hid fun _ => ?_, Lib.hid (newt_start _ _ _), HO1.out, HO2.out _, HB0.out⟩
    show (0 : Int) ≤ 0 ∧ (0 : Int) < P f; omega
  case round =>
    clear HO1 HO2 HB0
    obtain ⟨i, O, rfl, hi, rfl, HO, HN, o1, o2, hb⟩ := hrel
    by_cases h1 : i < n
    · have hd1 : decide ((i : Int) < n) = true := decide_eq_true (by omega)
      have d1 : wr.cell? ⟨b, off + i, none⟩ = some (.int .i64 (A i)) := (hb.cell (p := ⟨b, off + i, none⟩) hlt).trans (HC.out i h1)
      have bA := HA.out i
      have bE := HEB.out i
      have c1 := World.rowIs.cell o1 h1
      have f1 := World.rowIs.frozen o1 i
      have HMU := Lib.hid (mul_c f (A i) (sgE f i) wr (HTB.out _ hb) h0 h8 bA.1 bA.2 bE.1 bE.2)
      have HE1 : Hid (RS (A i * sgE f i) (P f) = sgA f A i) := Lib.hid rfl
      have HS1 := Lib.hid (own_step (F := fun x => sgA f A x) o1)
      have hb2 := hb.setCell (p := ⟨w.heap.size, i, none⟩) (Nat.le_refl _) (.int .i64 (sgA f A i))
      have ho2 : Own (wr.setCell ⟨w.heap.size, i, none⟩ (.int .i64 (sgA f A i))) (w.heap.size + 1) n (nrow O i 0) := own_congr (own_other o2 (by omega)) rfl (fun j _ => nrow_zero O i j)
      have HEX := Lib.hid (HNX.out i)
      clear o1 o2
      generalize sgE f i = SE at *
      go_wp2_with fail
      refine HMU.out.mono ?_
      rintro e w' ⟨rfl, rfl⟩
      rw [HE1.out]
      clear HMU HE1
      go_wp2_with fail
      have hs1 := HS1.out
      clear d1 c1 f1 HS1
      generalize wr.setCell ⟨w.heap.size, i, none⟩ (.int .i64 (sgA f A i)) = W1 at *
      have bS := HSB.out i
      have e1 : W1.drew.cell? ⟨w.heap.size, i, none⟩ = some (.int .i64 (sgA f A i)) := by
        have := World.rowIs.cell hs1 h1
        simpa using this
      have e2 : W1.drew.cell? ⟨w.heap.size + 1, i, none⟩ = some (.int .i64 (nrow O i 0 i)) := World.rowIs.cell ho2 h1
      have e3 : W1.drew.frozen? ⟨w.heap.size + 1, i, none⟩ = false := World.rowIs.frozen ho2 i
      have hbd : Below w.heap.size w W1.drew := hb2.drew
      have bR := RS_bd (x := (i : Int) + 1) (m := P f) (by omega)
      have HRD := Lib.hid (reduce_c f ((i : Int) + 1) W1.drew (HTB.out _ hbd) h0 h8)
      have HMU := Lib.hid (mul_c f (RS ((i : Int) + 1) (P f)) (sgA f A i) W1.drew (HTB.out _ hbd) h0 h8 bR.1 bR.2 bS.1 bS.2)
      have HE1 := Lib.hid (HN1.out O i)
      have hw : IntKind.i64.wrap ((i : Int) + 1) = (i : Int) + 1 := IntWalk.i64_in _ (by omega)
      have hi1 : (0 : Int) ≤ (i : Int) := by omega
      have hi2 : (i : Int) < n := by omega
      have HS2 : Hid (Own (W1.drew.setCell ⟨w.heap.size + 1, i, none⟩ (.int .i64 (nsum f A O i 0))) (w.heap.size + 1) n (nrow O i (nsum f A O i 0))) := Lib.hid (nrow_set (show Own W1.drew (w.heap.size + 1) n (nrow O i 0) from ho2))
      have HS1 : Hid (Own (W1.drew.setCell ⟨w.heap.size + 1, i, none⟩ (.int .i64 (nsum f A O i 0))) w.heap.size n (fun x => if x < i + 1 then sgA f A x else 0)) := Lib.hid (own_other (show Own W1.drew w.heap.size n (fun x => if x < i + 1 then sgA f A x else 0) from hs1) (by omega))
      have hb3 := hbd.setCell (p := ⟨w.heap.size + 1, i, none⟩) (by show w.heap.size ≤ w.heap.size + 1; omega) (.int .i64 (nsum f A O i 0))
      clear hs1 ho2
      refine wp_region_still_tail 13 (by kernel_rfl) (by kernel_rfl) ?_
      simp only [List.take_succ_cons, List.take_zero, List.drop_succ_cons, List.drop_zero]
      still_step
      still_step
      still_step
      still_step
      still_step
      still_step
      still_call (HRD.out.mono fun _ _ h => ⟨h.1, h.2.symm⟩)
      still_step
      still_step
      still_step
      still_step
      still_call (HMU.out.mono fun _ _ h => ⟨h.1, h.2.symm⟩)
      still_step
      refine wpStill_nil ?_
      change wpList _ _ _ _ _ W1.drew
      rw [HE1.out]
      clear e1 hw HRD HMU HE1 hb2
      generalize W1.drew = W2 at *
      go_wp2_with fail
      clear e2 e3
      generalize W2.setCell ⟨w.heap.size + 1, i, none⟩ (.int .i64 (nsum f A O i 0)) = W3 at *
      go_loopw [10, 45] (fun _ jv wr2 => ∃ j : Nat, jv = .int .i64 j ∧ j ≤ i ∧ Own wr2 w.heap.size n (fun x => if x < i + 1 then sgA f A x else 0) ∧ Own wr2 (w.heap.size + 1) n (nrow O i (nsum f A O i j)) ∧ Below w.heap.size w wr2) (fun _ jv _ => i - (intOf jv).toNat)
      case atStart => exact ⟨0, rfl, Nat.zero_le _, HS1.out, HS2.out, hb3⟩
      case round =>
        clear HS1 HS2 hb3
        obtain ⟨j, rfl, hj, o1, o2, hb4⟩ := hrel
        by_cases h2 : j < i
        · have hd2 : decide ((j : Int) < i) = true := decide_eq_true (by omega)
          obtain ⟨d, hdd⟩ : ∃ d, i - 1 - j = d := ⟨_, rfl⟩
          have hdi : d < i := by omega
          have hdn : d < n := by omega
          have hjn : j < n := by omega
          have g1 : wr.drew.cell? ⟨w.heap.size, j, none⟩ = some (.int .i64 (sgA f A j)) := by
            have hx := World.rowIs.cell o1 hjn
            have e : (fun x => if x < i + 1 then sgA f A x else 0) j = sgA f A j := if_pos (show j < i + 1 by omega)
            rw [e] at hx
            exact hx
          have g2 : wr.drew.cell? ⟨w.heap.size + 1, i, none⟩ = some (.int .i64 (nsum f A O i j)) := by
            have := World.rowIs.cell o2 h1
            unfold nrow at this
            rw [if_neg (by omega), if_pos rfl] at this
            exact this
          have g3 : wr.drew.cell? ⟨w.heap.size + 1, d, none⟩ = some (.int .i64 (O d)) := by
            have := World.rowIs.cell o2 hdn
            unfold nrow at this
            rw [if_pos hdi] at this
            exact this
          have g4 : wr.drew.frozen? ⟨w.heap.size + 1, i, none⟩ = false := World.rowIs.frozen o2 i
          have hbd4 : Below w.heap.size w wr.drew := hb4.drew
          have bS := HSB.out j
          have bO := HO.out d
          have bN := HNB.out O i j
          have bR := RS_bd (x := sgA f A j * O d) (m := P f) (by omega)
          have HMU := Lib.hid (mul_c f (sgA f A j) (O d) wr.drew (HTB.out _ hbd4) h0 h8 bS.1 bS.2 bO.1 bO.2)
          have HAD := Lib.hid (add_c f (nsum f A O i j) (RS (sgA f A j * O d) (P f)) wr.drew (HTB.out _ hbd4) h0 h8 bN.1 bN.2 bR.1 bR.2)
          have HE2 : Hid (RS (nsum f A O i j + RS (sgA f A j * O d) (P f)) (P f) = nsum f A O i (j + 1)) := Lib.hid (by rw [← hdd]; exact HN2.out O i j)
          have hw1 : IntKind.i64.wrap ((i : Int) - 1) = (i : Int) - 1 := IntWalk.i64_in _ (by omega)
          have hw2 : IntKind.i64.wrap ((i : Int) - 1 - j) = (d : Int) := by
            rw [IntWalk.i64_in _ (by omega)]
            omega
          have hj0 : (0 : Int) ≤ (j : Int) := by omega
          have hj1 : (j : Int) < n := by omega
          have hd0 : (0 : Int) ≤ (d : Int) := by omega
          have hd1' : (d : Int) < n := by omega
          have HS2 : Hid (Own (wr.drew.setCell ⟨w.heap.size + 1, i, none⟩ (.int .i64 (nsum f A O i (j + 1)))) (w.heap.size + 1) n (nrow O i (nsum f A O i (j + 1)))) := Lib.hid (nrow_set (show Own wr.drew (w.heap.size + 1) n (nrow O i (nsum f A O i j)) from o2))
          have HS1 : Hid (Own (wr.drew.setCell ⟨w.heap.size + 1, i, none⟩ (.int .i64 (nsum f A O i (j + 1)))) w.heap.size n (fun x => if x < i + 1 then sgA f A x else 0)) := Lib.hid (own_other (show Own wr.drew w.heap.size n (fun x => if x < i + 1 then sgA f A x else 0) from o1) (by omega))
          have HB5 := Lib.hid (hbd4.setCell (p := ⟨w.heap.size + 1, i, none⟩) (by show w.heap.size ≤ w.heap.size + 1; omega) (.int .i64 (nsum f A O i (j + 1))))
          clear o1 o2 hdd hb
          go_wp2
          refine wp_region_still_tail 22 (by kernel_rfl) (by kernel_rfl) ?_
          simp only [List.take_succ_cons, List.take_zero, List.drop_succ_cons, List.drop_zero]
          iterate 19 still_step
          still_call (HMU.out.mono fun _ _ h => ⟨h.1, h.2.symm⟩)
          still_call (HAD.out.mono fun _ _ h => ⟨h.1, h.2.symm⟩)
          still_step
          refine wpStill_nil ?_
          change wpList _ _ _ _ _ wr.drew
          rw [HE2.out]
          clear g1 g3 hw1 hw2 HMU HAD HE2 hbd4 hb4
          generalize wr.drew = W5 at *
          go_wp2
          go_roundw
          case rel => exact ⟨j + 1, by go_num, by omega, HS1.out, HS2.out, HB5.out⟩
          case measure => simp [intOf]; omega
        · have hd2 : decide ((j : Int) < i) = false := decide_eq_false (by omega)
          obtain rfl : j = i := by omega
          have HMO : Hid (∀ x, 0 ≤ more O j (nsum f A O j j) x ∧ more O j (nsum f A O j j) x < P f) := Lib.hid (more_bd HO.out (HNB.out O j j))
          have HNN := Lib.hid (HST.out O j HN.out)
          have HR1 := Lib.hid o1
          have HR2 : Hid (Own wr (w.heap.size + 1) n (fun x => if x < j + 1 then more O j (nsum f A O j j) x else 0)) := Lib.hid (own_congr o2 rfl (fun x _ => nrow_more O j x _))
          have q : IntKind.i64.wrap (P f - SE) = P f - SE := IntWalk.i64_in _ (by omega)
          clear o1 o2 hb
          go_wp2_with fail
          refine (prime_c f wr (HTB.out _ hb4) h0 h8).mono ?_
          rintro e w' ⟨rfl, rfl⟩
          go_wp2
          go_roundw
          case rel => exact ⟨j + 1, _, by go_num, by omega, vint HEX.out, HMO, HNN, HR1.out, HR2.out, hb4⟩
          case measure => simp [intOf]; omega
    · have hd : decide ((i : Int) < n) = false := decide_eq_false (by omega)
      obtain rfl : i = n := by omega
      have HF := Lib.hid (HFIN.out O wr HO.out HN.out o2 hb)
      clear o1 o2
      go_wp2
      go_ret
      exact HF.out
end Go.Proofs.YtmgggdibbhameabDoor
namespace Go.Proofs.YtmgggdibbhameabDoor
open Go.RowKit
theorem comp_on {f : Int} {l m : List Int} (h : FitOk f l m) : mFit f l m = true := by unfold mFit; simp [h]
theorem comp_off {f : Int} {l m : List Int} (h : ¬ FitOk f l m) : mFit f l m = false := by unfold mFit; simp [h]
theorem starts_on {f x : Int} {l : List Int} (h : SerOk f l) (h2 : lf l 0 = x) : mStarts f l x = true := by unfold mStarts; simp [h, h2]
theorem starts_off {f x : Int} {l : List Int} (h : ¬ (SerOk f l ∧ lf l 0 = x)) : mStarts f l x = false := by unfold mStarts; simp only [decide_eq_false_iff_not]; exact h
theorem src_head {w : World} {a : Option Addr} {l : List Int} {f : Int} (h : SerOk f l) (hs : Src w a l.length (lf l)) : ∃ b off, a = some ⟨b, off, none⟩ ∧ w.cell? ⟨b, off, none⟩ = some (.int .i64 (lf l 0)) := by
  have n1 := h.2.1
  rcases hs with hz | ⟨b, off, rfl, hlt, hc⟩
  · omega
  · exact ⟨b, off, rfl, by have := hc 0 (by omega); rwa [Nat.add_zero] at this⟩
theorem newt_list {f : Int} {l : List Int} {O : Nat → Int} (h : SerOk f l) (hO : ∀ j, 0 ≤ O j ∧ O j < P f) (hN : IsNewt (P f) l.length (eS (lf l)) O) : newtL f l = tab l.length O := by
  have hp := P_bd h.1.1 h.1.2
  refine newtL_eq h ⟨tab_ser (by omega) hO, ?_⟩
  have e : oneE l = eS (lf l) := rfl
  rw [e]
  refine hN.trans fun i hi => ?_
  have : cv i (sgnS O) (eS (lf l)) = cv i (sgnS (lf (tab l.length O))) (eS (lf l)) := cv_congr (fun j hj => by
    unfold sgnS
    by_cases hz : j = 0
    · rw [if_pos hz, if_pos hz]
    · rw [if_neg hz, if_neg hz, lf_tab, if_pos (by omega)]) (fun _ _ => rfl)
  show cv i (sgnS O) (eS (lf l)) % P f = _
  rw [this]
  rfl
set_option maxRecDepth 100000 in
set_option maxHeartbeats 1600000 in
theorem iSeriesMul (f : Int) (a : Option Addr) (l : List Int) (cap : Nat) (a2 : Option Addr) (m : List Int) (cap2 : Nat) (w : World) (hn : l.length ≤ 1048576) (hn2 : m.length ≤ 1048576) (hs : SrcC w a l.length cap (lf l)) (hs2 : SrcC w a2 m.length cap2 (lf m)) (ht : Tab w) : Calls Tryd.prog 32 #[.int .i64 f, .slice a l.length cap, .slice a2 m.length cap2] w (OwnL w (mSeriesMul f l m)) := by
  have R := Lib.hid (areComp_c f a l cap a2 m cap2 w hn hn2 hs.src hs2.src ht)
  by_cases h : FitOk f l m
  · rw [show mSeriesMul f l m = smulL f l m by unfold mSeriesMul; rw [if_pos h]]
    rw [comp_on h] at R
    have H : Hid (Calls Tryd.prog 66 #[.int .i64 f, .slice a l.length cap, .slice a2 m.length cap2] w (OwnG w (smulL f l m))) := Lib.hid (by
      have h64 := h.2.1.2.1
      obtain ⟨c2, s2⟩ := hs2
      rw [← h.1] at s2 c2 ⊢
      exact sprod_c f a a2 l.length cap cap2 (lf l) (lf m) w ht h.2.1.1.1 h.2.1.1.2 h64.1 (by omega) c2 h.2.1.all h.2.2.all hs.src s2)
    clear h hs hs2
    generalize smulL f l m = R1 at *
    go_enter Tryd.func32, Tryd.ntmps32
    go_wp2_with fail
    refine (R.out).mono ?_
    rintro e w' ⟨rfl, rfl⟩
    go_wp2_with fail
    refine (H.out).mono ?_
    intro e w4 h4
    have HR := Lib.hid h4.own
    obtain ⟨g4, rfl, _⟩ := h4
    go_wp2
    go_ret
    exact HR.out
  · rw [show mSeriesMul f l m = [] by unfold mSeriesMul; rw [if_neg h]]
    rw [comp_off h] at R
    clear h hs hs2
    go_enter Tryd.func32, Tryd.ntmps32
    go_wp2_with fail
    refine (R.out).mono ?_
    rintro e w' ⟨rfl, rfl⟩
    go_wp2
    go_ret
    exact ⟨none, 0, rfl, OwnA.nil rfl, Below.refl _ _⟩
set_option maxRecDepth 100000 in
set_option maxHeartbeats 1600000 in
theorem iNewton (f : Int) (a : Option Addr) (l : List Int) (cap : Nat) (w : World) (hn : l.length ≤ 1048576) (hs : SrcC w a l.length cap (lf l)) (ht : Tab w) : Calls Tryd.prog 20 #[.int .i64 f, .slice a l.length cap] w (OwnLB w (mNewton0 f l) (mNewton1 f l)) := by
  have R := Lib.hid (iSeriesOk f a l cap w hn hs.src ht)
  by_cases h : SerOk f l
  · rw [show mNewton0 f l = newtL f l by unfold mNewton0; rw [if_pos h], show mNewton1 f l = true by unfold mNewton1; simp [h]]
    rw [sok_iff.2 h] at R
    have H : Hid (Calls Tryd.prog 52 #[.int .i64 f, .slice a l.length cap] w (OwnG w (newtL f l))) := Lib.hid (by
      have h64 := h.2.1
      obtain ⟨b, off, rfl, hlt, hc⟩ : ∃ b off, a = some ⟨b, off, none⟩ ∧ b < w.heap.size ∧ ∀ j, j < l.length → w.cell? ⟨b, off + j, none⟩ = some (.int .i64 (lf l j)) := by
        rcases hs.src with hq | hq
        · omega
        · exact hq
      refine (psums_some f b off l.length cap (lf l) w ht h.1.1 h.1.2 (by omega) h.all hlt hc).mono ?_
      rintro e w' ⟨O, hO, hN, ho⟩
      rw [newt_list h hO hN]
      exact ho)
    clear h hs
    generalize newtL f l = R1 at *
    go_enter Tryd.func20, Tryd.ntmps20
    go_wp2_with fail
    refine (R.out).mono ?_
    rintro e w' ⟨rfl, rfl⟩
    go_wp2_with fail
    refine (H.out).mono ?_
    intro e w4 h4
    have HO := Lib.hid h4
    obtain ⟨g4, rfl, hg4, o4, b4⟩ := h4
    have HR := Lib.hid (OwnG.finishB hg4 o4 b4)
    clear o4 HO
    go_wp2
    go_ret2
    exact HR.out
  · rw [show mNewton0 f l = [] by unfold mNewton0; rw [if_neg h], show mNewton1 f l = false by unfold mNewton1; simp [h]]
    rw [sok_not.2 h] at R
    clear h hs
    go_enter Tryd.func20, Tryd.ntmps20
    go_wp2_with fail
    refine (R.out).mono ?_
    rintro e w' ⟨rfl, rfl⟩
    go_wp2
    go_ret2
    exact ⟨none, 0, rfl, OwnA.nil rfl, Below.refl _ _⟩
set_option maxRecDepth 100000 in
set_option maxHeartbeats 1600000 in
theorem iSeriesLog (f : Int) (a : Option Addr) (l : List Int) (cap : Nat) (w : World) (hn : l.length ≤ 1048576) (hs : SrcC w a l.length cap (lf l)) (ht : Tab w) : Calls Tryd.prog 26 #[.int .i64 f, .slice a l.length cap] w (OwnLB w (mSeriesLog0 f l) (mSeriesLog1 f l)) := by
  have R := Lib.hid (starts_c f a l cap 1 w hn hs.src ht)
  by_cases h : LogOk f l
  · rw [show mSeriesLog0 f l = logL f l by unfold mSeriesLog0; rw [if_pos h], show mSeriesLog1 f l = true by unfold mSeriesLog1; simp [h]]
    have h1 := h.1.1
    have RI := Lib.hid (hasInt_c f a l.length cap w h1.1.1 h1.1.2 ht)
    rw [starts_on h1 h.2] at R
    rw [decide_eq_true h.1.2] at RI
    have H := Lib.hid (logarithm_c f a l cap w ht h hs.1 hs.src)
    clear h h1 hs
    generalize logL f l = R1 at *
    go_enter Tryd.func26, Tryd.ntmps26
    go_wp2_with fail
    refine (R.out).mono ?_
    rintro e w' ⟨rfl, rfl⟩
    go_wp2_with fail
    refine (RI.out).mono ?_
    rintro e w' ⟨rfl, rfl⟩
    go_wp2_with fail
    refine (H.out).mono ?_
    intro e w4 h4
    have HO := Lib.hid h4
    obtain ⟨g4, rfl, hg4, o4, b4⟩ := h4
    have HR := Lib.hid (OwnG.finishB hg4 o4 b4)
    clear o4 HO
    go_wp2
    go_ret2
    exact HR.out
  · rw [show mSeriesLog0 f l = [] by unfold mSeriesLog0; rw [if_neg h], show mSeriesLog1 f l = false by unfold mSeriesLog1; simp [h]]
    by_cases h2 : SerOk f l ∧ lf l 0 = 1
    · have h1 := h2.1
      have RI := Lib.hid (hasInt_c f a l.length cap w h1.1.1 h1.1.2 ht)
      rw [decide_eq_false fun hq => h ⟨⟨h1, hq⟩, h2.2⟩] at RI
      rw [starts_on h1 h2.2] at R
      clear h h1 h2 hs
      go_enter Tryd.func26, Tryd.ntmps26
      go_wp2_with fail
      refine (R.out).mono ?_
      rintro e w' ⟨rfl, rfl⟩
      go_wp2_with fail
      refine (RI.out).mono ?_
      rintro e w' ⟨rfl, rfl⟩
      go_wp2
      go_ret2
      exact ⟨none, 0, rfl, OwnA.nil rfl, Below.refl _ _⟩
    · rw [starts_off h2] at R
      clear h h2 hs
      go_enter Tryd.func26, Tryd.ntmps26
      go_wp2_with fail
      refine (R.out).mono ?_
      rintro e w' ⟨rfl, rfl⟩
      go_wp2
      go_ret2
      exact ⟨none, 0, rfl, OwnA.nil rfl, Below.refl _ _⟩
set_option maxRecDepth 100000 in
set_option maxHeartbeats 1600000 in
theorem iSeriesExp (f : Int) (a : Option Addr) (l : List Int) (cap : Nat) (w : World) (hn : l.length ≤ 1048576) (hs : SrcC w a l.length cap (lf l)) (ht : Tab w) : Calls Tryd.prog 28 #[.int .i64 f, .slice a l.length cap] w (OwnLB w (mSeriesExp0 f l) (mSeriesExp1 f l)) := by
  have R := Lib.hid (starts_c f a l cap 0 w hn hs.src ht)
  by_cases h : ExpOk f l
  · rw [show mSeriesExp0 f l = expL f l by unfold mSeriesExp0; rw [if_pos h], show mSeriesExp1 f l = true by unfold mSeriesExp1; simp [h]]
    have h1 := h.1.1
    have RI := Lib.hid (hasInt_c f a l.length cap w h1.1.1 h1.1.2 ht)
    rw [starts_on h1 h.2] at R
    rw [decide_eq_true h.1.2] at RI
    have H := Lib.hid (exponential_c f a l cap w ht h hs.1 hs.src)
    clear h h1 hs
    generalize expL f l = R1 at *
    go_enter Tryd.func28, Tryd.ntmps28
    go_wp2_with fail
    refine (R.out).mono ?_
    rintro e w' ⟨rfl, rfl⟩
    go_wp2_with fail
    refine (RI.out).mono ?_
    rintro e w' ⟨rfl, rfl⟩
    go_wp2_with fail
    refine (H.out).mono ?_
    intro e w4 h4
    have HO := Lib.hid h4
    obtain ⟨g4, rfl, hg4, o4, b4⟩ := h4
    have HR := Lib.hid (OwnG.finishB hg4 o4 b4)
    clear o4 HO
    go_wp2
    go_ret2
    exact HR.out
  · rw [show mSeriesExp0 f l = [] by unfold mSeriesExp0; rw [if_neg h], show mSeriesExp1 f l = false by unfold mSeriesExp1; simp [h]]
    by_cases h2 : SerOk f l ∧ lf l 0 = 0
    · have h1 := h2.1
      have RI := Lib.hid (hasInt_c f a l.length cap w h1.1.1 h1.1.2 ht)
      rw [decide_eq_false fun hq => h ⟨⟨h1, hq⟩, h2.2⟩] at RI
      rw [starts_on h1 h2.2] at R
      clear h h1 h2 hs
      go_enter Tryd.func28, Tryd.ntmps28
      go_wp2_with fail
      refine (R.out).mono ?_
      rintro e w' ⟨rfl, rfl⟩
      go_wp2_with fail
      refine (RI.out).mono ?_
      rintro e w' ⟨rfl, rfl⟩
      go_wp2
      go_ret2
      exact ⟨none, 0, rfl, OwnA.nil rfl, Below.refl _ _⟩
    · rw [starts_off h2] at R
      clear h h2 hs
      go_enter Tryd.func28, Tryd.ntmps28
      go_wp2_with fail
      refine (R.out).mono ?_
      rintro e w' ⟨rfl, rfl⟩
      go_wp2
      go_ret2
      exact ⟨none, 0, rfl, OwnA.nil rfl, Below.refl _ _⟩
set_option maxRecDepth 100000 in
set_option maxHeartbeats 1600000 in
theorem iSeriesSqrt (f : Int) (a : Option Addr) (l : List Int) (cap : Nat) (w : World) (hn : l.length ≤ 1048576) (hs : SrcC w a l.length cap (lf l)) (ht : Tab w) : Calls Tryd.prog 13 #[.int .i64 f, .slice a l.length cap] w (OwnLB w (mSeriesSqrt0 f l) (mSeriesSqrt1 f l)) := by
  have R := Lib.hid (starts_c f a l cap 1 w hn hs.src ht)
  by_cases h : SqrtOk f l
  · rw [show mSeriesSqrt0 f l = sqrtL f l by unfold mSeriesSqrt0; rw [if_pos h], show mSeriesSqrt1 f l = true by unfold mSeriesSqrt1; simp [h]]
    rw [starts_on h.1 h.2] at R
    have H := Lib.hid (squareRoot_c f a l cap w ht h hs.1 hs.src)
    clear h hs
    generalize sqrtL f l = R1 at *
    go_enter Tryd.func13, Tryd.ntmps13
    go_wp2_with fail
    refine (R.out).mono ?_
    rintro e w' ⟨rfl, rfl⟩
    go_wp2_with fail
    refine (H.out).mono ?_
    intro e w4 h4
    have HO := Lib.hid h4
    obtain ⟨g4, rfl, hg4, o4, b4⟩ := h4
    have HR := Lib.hid (OwnG.finishB hg4 o4 b4)
    clear o4 HO
    go_wp2
    go_ret2
    exact HR.out
  · rw [show mSeriesSqrt0 f l = [] by unfold mSeriesSqrt0; rw [if_neg h], show mSeriesSqrt1 f l = false by unfold mSeriesSqrt1; simp [h]]
    rw [starts_off h] at R
    clear h hs
    go_enter Tryd.func13, Tryd.ntmps13
    go_wp2_with fail
    refine (R.out).mono ?_
    rintro e w' ⟨rfl, rfl⟩
    go_wp2
    go_ret2
    exact ⟨none, 0, rfl, OwnA.nil rfl, Below.refl _ _⟩
set_option maxRecDepth 100000 in
set_option maxHeartbeats 1600000 in
theorem iSeriesInto (f : Int) (a : Option Addr) (l : List Int) (cap : Nat) (a2 : Option Addr) (m : List Int) (cap2 : Nat) (w : World) (hn : l.length ≤ 1048576) (hn2 : m.length ≤ 1048576) (hs : SrcC w a l.length cap (lf l)) (hs2 : SrcC w a2 m.length cap2 (lf m)) (ht : Tab w) : Calls Tryd.prog 18 #[.int .i64 f, .slice a l.length cap, .slice a2 m.length cap2] w (OwnLB w (mSeriesInto0 f l m) (mSeriesInto1 f l m)) := by
  have R := Lib.hid (areComp_c f a l cap a2 m cap2 w hn hn2 hs.src hs2.src ht)
  by_cases h : IntoOk f l m
  · rw [show mSeriesInto0 f l m = intoL f l m by unfold mSeriesInto0; rw [if_pos h], show mSeriesInto1 f l m = true by unfold mSeriesInto1; simp [h]]
    have h1 := h.1
    obtain ⟨b, off, rfl, c0⟩ := src_head h1.2.2 hs2.src
    have n0 : (0 : Int) < (m.length : Int) := by have := h1.2.2.2.1; omega
    have n0' : 0 < m.length := by omega
    rw [comp_on h1] at R
    rw [h.2] at c0
    have H := Lib.hid (substituted_c f a (some ⟨b, off, none⟩) l m cap cap2 w ht h hs2.1 hs.src hs2.src)
    clear h h1 hs hs2
    generalize intoL f l m = R1 at *
    go_enter Tryd.func18, Tryd.ntmps18
    go_wp2_with fail
    refine (R.out).mono ?_
    rintro e w' ⟨rfl, rfl⟩
    go_wp2_with fail
    refine (H.out).mono ?_
    intro e w4 h4
    have HO := Lib.hid h4
    obtain ⟨g4, rfl, hg4, o4, b4⟩ := h4
    have HR := Lib.hid (OwnG.finishB hg4 o4 b4)
    clear o4 HO
    go_wp2
    go_ret2
    exact HR.out
  · rw [show mSeriesInto0 f l m = [] by unfold mSeriesInto0; rw [if_neg h], show mSeriesInto1 f l m = false by unfold mSeriesInto1; simp [h]]
    by_cases h1 : FitOk f l m
    · obtain ⟨b, off, rfl, c0⟩ := src_head h1.2.2 hs2.src
      have n0 : (0 : Int) < (m.length : Int) := by have := h1.2.2.2.1; omega
      have n0' : 0 < m.length := by omega
      have dz : (lf m 0 != 0) = true := by rw [bne_iff_ne]; exact fun hz => h ⟨h1, hz⟩
      rw [comp_on h1] at R
      clear h h1 hs hs2
      generalize lf m 0 = A0 at *
      go_enter Tryd.func18, Tryd.ntmps18
      go_wp2_with fail
      refine (R.out).mono ?_
      rintro e w' ⟨rfl, rfl⟩
      go_wp2
      go_ret2
      exact ⟨none, 0, rfl, OwnA.nil rfl, Below.refl _ _⟩
    · rw [comp_off h1] at R
      clear h h1 hs hs2
      go_enter Tryd.func18, Tryd.ntmps18
      go_wp2_with fail
      refine (R.out).mono ?_
      rintro e w' ⟨rfl, rfl⟩
      go_wp2
      go_ret2
      exact ⟨none, 0, rfl, OwnA.nil rfl, Below.refl _ _⟩
set_option maxRecDepth 100000 in
set_option maxHeartbeats 1600000 in
theorem iSeriesPow (f : Int) (a : Option Addr) (l : List Int) (cap : Nat) (e : Int) (w : World) (hn : l.length ≤ 1048576) (hs : SrcC w a l.length cap (lf l)) (ht : Tab w) : Calls Tryd.prog 37 #[.int .i64 f, .slice a l.length cap, .int .i64 e] w (OwnLB w (mSeriesPow0 f l e) (mSeriesPow1 f l e)) := by
  have R := Lib.hid (iSeriesOk f a l cap w hn hs.src ht)
  by_cases h : SPowOk f l e
  · rw [show mSeriesPow0 f l e = spowL f l e by unfold mSeriesPow0; rw [if_pos h], show mSeriesPow1 f l e = true by unfold mSeriesPow1; simp [h]]
    have h1 := h.1
    have h2 := h.2.1
    rw [sok_iff.2 h1] at R
    have d1 : decide (e < -1000000) = false := decide_eq_false (by omega)
    have d2 : decide ((1000000 : Int) < e) = false := decide_eq_false (by omega)
    by_cases h3 : 0 ≤ e
    · have d3 : decide (0 ≤ e) = true := decide_eq_true h3
      have H : Hid (Calls Tryd.prog 70 #[.int .i64 f, .slice a l.length cap, .int .i64 e] w (OwnG w (spowL f l e))) := Lib.hid (by
        have := raised_c f e a l cap w ht h1 h3 h2.2 hs.src
        have e1 : spowL f l e = elL f l.length (powS (lf l) e.toNat) := by
          unfold spowL zpS
          rw [if_pos h3]
        rw [e1]
        exact this)
      clear h h1 hs
      generalize spowL f l e = R1 at *
      go_enter Tryd.func37, Tryd.ntmps37
      go_wp2_with fail
      refine (R.out).mono ?_
      rintro e w' ⟨rfl, rfl⟩
      go_wp2_with fail
      refine (H.out).mono ?_
      intro e w4 h4
      have HO := Lib.hid h4
      obtain ⟨g4, rfl, hg4, o4, b4⟩ := h4
      have HR := Lib.hid (OwnG.finishB hg4 o4 b4)
      clear o4 HO
      go_wp2
      go_ret2
      exact HR.out
    · have hz := h.2.2 (by omega)
      have d3 : decide (0 ≤ e) = false := decide_eq_false h3
      have d4 : (lf l 0 == 0) = false := by rw [beq_eq_false_iff_ne]; exact hz
      have hq := invL_is h1 hz
      have hV := hq.1.ok h1.1 h1.2.1.1 h1.2.1.2
      have H1 := Lib.hid (inverted_c f a l cap w ht h1 hz hs.1 hs.src)
      have H2 : Hid (∀ (g : Nat) W, Below w.heap.size w W → Own W g (invL f l).length (lf (invL f l)) → Calls Tryd.prog 70 #[.int .i64 f, .slice (some ⟨g, 0, none⟩) (invL f l).length (invL f l).length, .int .i64 (-e)] W (OwnG W (spowL f l e))) := Lib.hid fun g W hb o1 => by
        have := raised_c f (-e) (some ⟨g, 0, none⟩) (invL f l) (invL f l).length W (ht.below hb) hV (by omega) (by omega) o1.src
        have e1 : spowL f l e = elL f (invL f l).length (powS (lf (invL f l)) (-e).toNat) := by
          unfold spowL zpS
          rw [if_neg h3, hq.1.1]
        rw [e1]
        exact this
      have q1 : IntKind.i64.wrap (-e) = -e := IntWalk.i64_in _ (by omega)
      obtain ⟨b, off, rfl, c0⟩ := src_head h1 hs.src
      have n0 : (0 : Int) < (l.length : Int) := by have := h1.2.1; omega
      have n0' : 0 < l.length := by omega
      clear h h1 hs hz hq hV
      generalize invL f l = V at *
      generalize spowL f l e = R1 at *
      generalize lf l 0 = A0 at *
      go_enter Tryd.func37, Tryd.ntmps37
      go_wp2_with fail
      refine (R.out).mono ?_
      rintro e w' ⟨rfl, rfl⟩
      go_wp2_with fail
      refine (H1.out).mono ?_
      rintro e w1 ⟨g1, rfl, hg1, o1, b1⟩
      have HO1 := Lib.hid o1
      clear o1 H1 c0
      go_wp2_with fail
      refine (H2.out g1 w1 b1 HO1.out).mono ?_
      intro e w4 h4
      have h5 := h4.up b1
      obtain ⟨g4, rfl, _⟩ := h4
      have HR := Lib.hid (show OwnLB w R1 true _ w4 from (by
        obtain ⟨g5, hg5, hl5, o5, b5⟩ := h5
        cases hg5
        exact OwnG.finishB hl5 o5 b5))
      clear h5 HO1 H2
      go_wp2
      go_ret2
      exact HR.out
  · rw [show mSeriesPow0 f l e = [] by unfold mSeriesPow0; rw [if_neg h], show mSeriesPow1 f l e = false by unfold mSeriesPow1; simp [h]]
    by_cases h1 : SerOk f l
    · rw [sok_iff.2 h1] at R
      by_cases h2 : -1000000 ≤ e ∧ e ≤ 1000000
      · have h3 : e < 0 := Classical.byContradiction fun hq => h ⟨h1, h2, fun hx => absurd hx hq⟩
        have hz : lf l 0 = 0 := Classical.byContradiction fun hq => h ⟨h1, h2, fun _ => hq⟩
        have d1 : decide (e < -1000000) = false := decide_eq_false (by omega)
        have d2 : decide ((1000000 : Int) < e) = false := decide_eq_false (by omega)
        have d3 : decide (0 ≤ e) = false := decide_eq_false (by omega)
        obtain ⟨b, off, rfl, c0⟩ := src_head h1 hs.src
        have n0 : (0 : Int) < (l.length : Int) := by have := h1.2.1; omega
        have n0' : 0 < l.length := by omega
        rw [hz] at c0
        clear h h1 hs hz
        go_enter Tryd.func37, Tryd.ntmps37
        go_wp2_with fail
        refine (R.out).mono ?_
        rintro e w' ⟨rfl, rfl⟩
        go_wp2
        go_ret2
        exact ⟨none, 0, rfl, OwnA.nil rfl, Below.refl _ _⟩
      · by_cases h3 : e < -1000000
        · have d1 : decide (e < -1000000) = true := decide_eq_true h3
          clear h h1 hs h2
          go_enter Tryd.func37, Tryd.ntmps37
          go_wp2_with fail
          refine (R.out).mono ?_
          rintro e w' ⟨rfl, rfl⟩
          go_wp2
          go_ret2
          exact ⟨none, 0, rfl, OwnA.nil rfl, Below.refl _ _⟩
        · have d1 : decide (e < -1000000) = false := decide_eq_false h3
          have d2 : decide ((1000000 : Int) < e) = true := decide_eq_true (by omega)
          clear h h1 hs h2
          go_enter Tryd.func37, Tryd.ntmps37
          go_wp2_with fail
          refine (R.out).mono ?_
          rintro e w' ⟨rfl, rfl⟩
          go_wp2
          go_ret2
          exact ⟨none, 0, rfl, OwnA.nil rfl, Below.refl _ _⟩
    · rw [sok_not.2 h1] at R
      clear h h1 hs
      go_enter Tryd.func37, Tryd.ntmps37
      go_wp2_with fail
      refine (R.out).mono ?_
      rintro e w' ⟨rfl, rfl⟩
      go_wp2
      go_ret2
      exact ⟨none, 0, rfl, OwnA.nil rfl, Below.refl _ _⟩
end Go.Proofs.YtmgggdibbhameabDoor
namespace Go.Proofs.YtmgggdibbhameabDoor
open Go.RowKit
theorem theL_len {Q : List Int → Prop} {n : Nat} (h : ∀ l, Q l → l.length ≤ n) : (theL Q).length ≤ n := by
  unfold theL
  split
  · rename_i hex
    exact h _ (Classical.choose_spec hex)
  · exact Nat.zero_le _
theorem len_mSeriesSqrt0 (f : Int) (l : List Int) (n : l.length ≤ 1048576) : (mSeriesSqrt0 f l).length ≤ 1048576 := by
  unfold mSeriesSqrt0
  split
  · exact theL_len fun x hx => by rw [hx.1.1]; exact n
  · simp
theorem len_mSeriesInto0 (f : Int) (l m : List Int) (n : l.length ≤ 1048576) (_n2 : m.length ≤ 1048576) : (mSeriesInto0 f l m).length ≤ 1048576 := by
  unfold mSeriesInto0
  split
  · unfold intoL; rw [elL_len]; exact n
  · simp
theorem len_mNewton0 (f : Int) (l : List Int) (n : l.length ≤ 1048576) : (mNewton0 f l).length ≤ 1048576 := by
  unfold mNewton0
  split
  · exact theL_len fun x hx => by rw [hx.1.1]; exact n
  · simp
end Go.Proofs.YtmgggdibbhameabDoor
