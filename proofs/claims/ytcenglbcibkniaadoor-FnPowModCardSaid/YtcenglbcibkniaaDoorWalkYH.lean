/-
  Products and values of polynomials: the functions of the program and of the specification.
-/
import Derived.Test.YtcenglbcibkniaaDoorWalkYE
import Derived.Test.YtcenglbcibkniaaDoorWalkYG
namespace Go.Proofs.YtcenglbcibkniaaDoor
open Go.RowKit
def NilB (w : World) (e : Ending) (w' : World) : Prop := e = .returned (.tuple #[.slice none 0 0, .bool false]) ∧ Below w.heap.size w w'
theorem NilB.list {w w' : World} {l : List Int} {b : Bool} {e : Ending} (hl : l = []) (hb : b = false) (h : NilB w e w') : ListLB w l b e w' := by
  subst hl; subst hb
  obtain ⟨rfl, hb⟩ := h
  exact ⟨none, 0, rfl, .inl rfl, hb⟩
theorem NilB.own {w w' : World} {l : List Int} {b : Bool} {e : Ending} (hl : l = []) (hb : b = false) (h : NilB w e w') : OwnLB w l b e w' := by
  subst hl; subst hb
  obtain ⟨rfl, hb⟩ := h
  exact ⟨none, 0, rfl, OwnA.nil rfl, hb⟩
theorem OwnG.finishB {w w' : World} {l : List Int} {g : Nat} (hg : w.heap.size ≤ g) (ho : Own w' g l.length (lf l)) (hb : Below w.heap.size w w') : OwnLB w l true (.returned (.tuple #[.slice (some ⟨g, 0, none⟩) l.length l.length, .bool true])) w' := ⟨_, _, rfl, .inr ⟨g, rfl, rfl, hg, ho⟩, hb⟩
theorem mul_on {f : Int} {l m : List Int} (h : okMul f l m) : mMulPoly0 f l m = mulL f l m ∧ mMulPoly1 f l m = true := by unfold mMulPoly0 mMulPoly1; rw [if_pos h]; exact ⟨rfl, by simp [h]⟩
theorem mul_off {f : Int} {l m : List Int} (h : ¬ okMul f l m) : mMulPoly0 f l m = [] ∧ mMulPoly1 f l m = false := by unfold mMulPoly0 mMulPoly1; rw [if_neg h]; exact ⟨rfl, by simp [h]⟩
set_option maxRecDepth 100000 in
set_option maxHeartbeats 1600000 in
theorem iMulPoly_on (f : Int) (a : Option Addr) (l : List Int) (cap : Nat) (a2 : Option Addr) (m : List Int) (cap2 : Nat) (w : World) (hn : l.length ≤ 1048576) (hn2 : m.length ≤ 1048576) (hs : Src w a l.length (lf l)) (hs2 : Src w a2 m.length (lf m)) (ht : Tab w) (hl : PolOk f l) (hm : PolOk f m) (hlen : l.length + m.length ≤ 401) :
    Calls Tryd.prog 12 #[.int .i64 f, .slice a l.length cap, .slice a2 m.length cap2] w (OwnLB w (mulL f l m) true) := by
  have HS := Lib.hid hs
  have HS2 := Lib.hid hs2
  have BA : Hid (∀ o, Below w.heap.size w (w.alloc o)) := Lib.hid fun o => (Below.refl _ _).alloc (Nat.le_refl _) o
  clear hs hs2
  have HB : Hid ((mPolyOk f l && mPolyOk f m) = true) := Lib.hid (by rw [pok_iff.2 hl, pok_iff.2 hm]; rfl)
  have h0 := hl.1.1
  have h8 := hl.1.2
  have HL := Lib.hid hl
  have HM := Lib.hid hm
  clear hl hm
  have hd : decide ((400 : Int) < (l.length : Int) + m.length - 1) = false := by simp; omega
  have l4 := HL.out.2.1
  have m4 := HM.out.2.1
  go_enter Tryd.func12, Tryd.ntmps12
  go_wp2_with fail
  refine (arePolys_c f w.heap.size a a2 l m cap cap2 _ hn hn2 (HS.out.keep (BA.out _)) (HS2.out.keep (BA.out _)) (ht.below (BA.out _)) (cell_two _ _ _ _).1 (cell_two _ _ _ _).2).mono ?_
  rintro e w' ⟨rfl, rfl⟩
  rw [HB.out]
  go_wp2_with fail
  refine (product_c f a a2 l m cap cap2 _ (ht.below (BA.out _)) h0 h8 (by omega) (by omega) HL.out.2.2 HM.out.2.2 (HS.out.keep (BA.out _)) (HS2.out.keep (BA.out _))).mono ?_
  rintro e w2 ho
  obtain ⟨g, rfl, hg, hO, hB⟩ := ho.up (BA.out _)
  have HO := Lib.hid hO
  clear hO ho
  go_wp2
  go_ret2
  exact OwnG.finishB hg HO.out hB
set_option maxRecDepth 100000 in
theorem iMulPoly_off (f : Int) (a : Option Addr) (l : List Int) (cap : Nat) (a2 : Option Addr) (m : List Int) (cap2 : Nat) (w : World) (hn : l.length ≤ 1048576) (hn2 : m.length ≤ 1048576) (hs : Src w a l.length (lf l)) (hs2 : Src w a2 m.length (lf m)) (ht : Tab w) (hk : ¬ okMul f l m) :
    Calls Tryd.prog 12 #[.int .i64 f, .slice a l.length cap, .slice a2 m.length cap2] w (NilB w) := by
  have HS := Lib.hid hs
  have HS2 := Lib.hid hs2
  have BA : Hid (∀ o, Below w.heap.size w (w.alloc o)) := Lib.hid fun o => (Below.refl _ _).alloc (Nat.le_refl _) o
  clear hs hs2
  by_cases hp : PolOk f l ∧ PolOk f m
  · have HB : Hid ((mPolyOk f l && mPolyOk f m) = true) := Lib.hid (by rw [pok_iff.2 hp.1, pok_iff.2 hp.2]; rfl)
    have hlen : ¬ l.length + m.length ≤ 401 := fun h => hk ⟨hp.1, hp.2, h⟩
    have hd : decide ((400 : Int) < (l.length : Int) + m.length - 1) = true := by simp; omega
    clear hk hp
    go_enter Tryd.func12, Tryd.ntmps12
    go_wp2_with fail
    refine (arePolys_c f w.heap.size a a2 l m cap cap2 _ hn hn2 (HS.out.keep (BA.out _)) (HS2.out.keep (BA.out _)) (ht.below (BA.out _)) (cell_two _ _ _ _).1 (cell_two _ _ _ _).2).mono ?_
    rintro e w' ⟨rfl, rfl⟩
    rw [HB.out]
    go_wp2
    go_ret2
    exact ⟨rfl, BA.out _⟩
  · have HB : Hid ((mPolyOk f l && mPolyOk f m) = false) := Lib.hid (by
      by_cases h1 : PolOk f l
      · rw [pok_not.2 fun h => hp ⟨h1, h⟩, Bool.and_false]
      · rw [pok_not.2 h1, Bool.false_and])
    clear hk hp
    go_enter Tryd.func12, Tryd.ntmps12
    go_wp2_with fail
    refine (arePolys_c f w.heap.size a a2 l m cap cap2 _ hn hn2 (HS.out.keep (BA.out _)) (HS2.out.keep (BA.out _)) (ht.below (BA.out _)) (cell_two _ _ _ _).1 (cell_two _ _ _ _).2).mono ?_
    rintro e w' ⟨rfl, rfl⟩
    rw [HB.out]
    go_wp2
    go_ret2
    exact ⟨rfl, BA.out _⟩
theorem iMulPoly (f : Int) (a : Option Addr) (l : List Int) (cap : Nat) (a2 : Option Addr) (m : List Int) (cap2 : Nat) (w : World) (hn : l.length ≤ 1048576) (hn2 : m.length ≤ 1048576) (hs : Src w a l.length (lf l)) (hs2 : Src w a2 m.length (lf m)) (ht : Tab w) :
    Calls Tryd.prog 12 #[.int .i64 f, .slice a l.length cap, .slice a2 m.length cap2] w (OwnLB w (mMulPoly0 f l m) (mMulPoly1 f l m)) := by
  by_cases hk : okMul f l m
  · rw [(mul_on hk).1, (mul_on hk).2]
    exact iMulPoly_on f a l cap a2 m cap2 w hn hn2 hs hs2 ht hk.1 hk.2.1 hk.2.2
  · exact (iMulPoly_off f a l cap a2 m cap2 w hn hn2 hs hs2 ht hk).mono fun _ _ h => h.own (mul_off hk).1 (mul_off hk).2
set_option maxRecDepth 100000 in
set_option maxHeartbeats 1600000 in
theorem sMulPoly_on (f : Int) (a : Option Addr) (l : List Int) (cap : Nat) (a2 : Option Addr) (m : List Int) (cap2 : Nat) (w : World) (hn : l.length ≤ 1048576) (hn2 : m.length ≤ 1048576) (hs : Src w a l.length (lf l)) (hs2 : Src w a2 m.length (lf m)) (hk : okMul f l m) :
    Calls Tryd.prog 19 #[.int .i64 f, .slice a l.length cap, .slice a2 m.length cap2] w (ListLB w (mulL f l m) true) := by
  have R1 := sPolyOk f a l cap w hn hs
  have R2 := sPolyOk f a2 m cap2 w hn2 hs2
  obtain ⟨h1, h2, h3⟩ := hk
  have HM := Lib.hid (lmul_c f a a2 l m cap cap2 w h1.1.1 h1.1.2 (by have := h1.2.1; omega) (by have := h2.2.1; omega) h1.2.2 h2.2.2 hs hs2)
  rw [pok_iff.2 h1] at R1
  rw [pok_iff.2 h2] at R2
  clear h1 h2 hs hs2
  have hd : decide ((400 : Int) < (l.length : Int) + m.length - 1) = false := by simp; omega
  have E : Hid (∀ e w2, OwnsL w (mulL f l m) e w2 → ∃ a3 cap3, e = .returned (.slice a3 (mulL f l m).length cap3) ∧ Src w2 a3 (mulL f l m).length (lf (mulL f l m)) ∧ Below w.heap.size w w2) := Lib.hid fun e w2 h => h.list
  generalize mulL f l m = s at *
  by_cases z1 : 0 < l.length
  · by_cases z2 : 0 < m.length
    · go_enter Tryd.func19, Tryd.ntmps19
      go_wp2_with fail
      refine R1.mono ?_
      rintro e w' ⟨rfl, rfl⟩
      go_wp2_with fail
      refine R2.mono ?_
      rintro e w' ⟨rfl, rfl⟩
      go_wp2_with fail
      refine HM.out.mono ?_
      rintro e w2 ho
      obtain ⟨a3, cap3, rfl, hs3, hb3⟩ := E.out _ _ ho
      have HS3 := Lib.hid hs3
      clear hs3 ho
      go_wp2
      go_ret2
      exact ⟨a3, cap3, rfl, HS3.out, hb3⟩
    · have hz2 : decide ((0 : Int) < m.length) = false := decide_eq_false (by omega)
      go_enter Tryd.func19, Tryd.ntmps19
      go_wp2_with fail
      refine R1.mono ?_
      rintro e w' ⟨rfl, rfl⟩
      go_wp2_with fail
      refine R2.mono ?_
      rintro e w' ⟨rfl, rfl⟩
      go_wp2_with fail
      refine HM.out.mono ?_
      rintro e w2 ho
      obtain ⟨a3, cap3, rfl, hs3, hb3⟩ := E.out _ _ ho
      have HS3 := Lib.hid hs3
      clear hs3 ho
      go_wp2
      go_ret2
      exact ⟨a3, cap3, rfl, HS3.out, hb3⟩
  · have hz1 : decide ((0 : Int) < l.length) = false := decide_eq_false (by omega)
    go_enter Tryd.func19, Tryd.ntmps19
    go_wp2_with fail
    refine R1.mono ?_
    rintro e w' ⟨rfl, rfl⟩
    go_wp2_with fail
    refine R2.mono ?_
    rintro e w' ⟨rfl, rfl⟩
    go_wp2_with fail
    refine HM.out.mono ?_
    rintro e w2 ho
    obtain ⟨a3, cap3, rfl, hs3, hb3⟩ := E.out _ _ ho
    have HS3 := Lib.hid hs3
    clear hs3 ho
    go_wp2
    go_ret2
    exact ⟨a3, cap3, rfl, HS3.out, hb3⟩
set_option maxRecDepth 100000 in
theorem sMulPoly_off (f : Int) (a : Option Addr) (l : List Int) (cap : Nat) (a2 : Option Addr) (m : List Int) (cap2 : Nat) (w : World) (hn : l.length ≤ 1048576) (hn2 : m.length ≤ 1048576) (hs : Src w a l.length (lf l)) (hs2 : Src w a2 m.length (lf m)) (hk : ¬ okMul f l m) :
    Calls Tryd.prog 19 #[.int .i64 f, .slice a l.length cap, .slice a2 m.length cap2] w (NilB w) := by
  have R1 := sPolyOk f a l cap w hn hs
  have R2 := sPolyOk f a2 m cap2 w hn2 hs2
  clear hs hs2
  by_cases h1 : PolOk f l
  · rw [pok_iff.2 h1] at R1
    by_cases h2 : PolOk f m
    · rw [pok_iff.2 h2] at R2
      have hlen : ¬ l.length + m.length ≤ 401 := fun h => hk ⟨h1, h2, h⟩
      have l4 := h1.2.1
      have m4 := h2.2.1
      have z1 : 0 < l.length := by omega
      have z2 : 0 < m.length := by omega
      have hd : decide ((400 : Int) < (l.length : Int) + m.length - 1) = true := by simp; omega
      clear hk h1 h2
      go_enter Tryd.func19, Tryd.ntmps19
      go_wp2_with fail
      refine R1.mono ?_
      rintro e w' ⟨rfl, rfl⟩
      go_wp2_with fail
      refine R2.mono ?_
      rintro e w' ⟨rfl, rfl⟩
      go_wp2
      go_ret2
      exact ⟨rfl, Below.refl _ _⟩
    · rw [pok_not.2 h2] at R2
      clear hk h1 h2
      go_enter Tryd.func19, Tryd.ntmps19
      go_wp2_with fail
      refine R1.mono ?_
      rintro e w' ⟨rfl, rfl⟩
      go_wp2_with fail
      refine R2.mono ?_
      rintro e w' ⟨rfl, rfl⟩
      go_wp2
      go_ret2
      exact ⟨rfl, Below.refl _ _⟩
  · rw [pok_not.2 h1] at R1
    clear hk h1
    go_enter Tryd.func19, Tryd.ntmps19
    go_wp2_with fail
    refine R1.mono ?_
    rintro e w' ⟨rfl, rfl⟩
    go_wp2
    go_ret2
    exact ⟨rfl, Below.refl _ _⟩
theorem sMulPoly (f : Int) (a : Option Addr) (l : List Int) (cap : Nat) (a2 : Option Addr) (m : List Int) (cap2 : Nat) (w : World) (hn : l.length ≤ 1048576) (hn2 : m.length ≤ 1048576) (hs : Src w a l.length (lf l)) (hs2 : Src w a2 m.length (lf m)) :
    Calls Tryd.prog 19 #[.int .i64 f, .slice a l.length cap, .slice a2 m.length cap2] w (ListLB w (mMulPoly0 f l m) (mMulPoly1 f l m)) := by
  by_cases hk : okMul f l m
  · rw [(mul_on hk).1, (mul_on hk).2]
    exact sMulPoly_on f a l cap a2 m cap2 w hn hn2 hs hs2 hk
  · exact (sMulPoly_off f a l cap a2 m cap2 w hn hn2 hs hs2 hk).mono fun _ _ h => h.list (mul_off hk).1 (mul_off hk).2
theorem pow_congr {p x y : Int} (h : x % p = y % p) (k : Nat) : x ^ k % p = y ^ k % p := by
  induction k with
  | zero => rw [Int.pow_zero, Int.pow_zero]
  | succ k ih => rw [Int.pow_succ, Int.pow_succ]; exact emod_mul_congr ih h
theorem power_nat {f : Int} (h0 : 0 ≤ f) (h8 : f ≤ 8) (x : Int) (k : Nat) : mPower f x k = RS (x ^ k) (P f) := by
  have hp := P_bd h0 h8
  unfold mPower
  rw [if_pos ⟨h0, h8⟩]
  by_cases hz : RS x (P f) = 0
  · rw [if_pos hz]
    unfold pow0
    have e0 : x % P f = 0 % P f := by rw [show x % P f = 0 from hz]; simp
    cases k with
    | zero => simp [RS]; exact (Int.emod_eq_of_lt (by omega) (by omega)).symm
    | succ k =>
      rw [if_neg (by omega), if_neg (by omega)]
      unfold RS
      rw [pow_congr e0 (k + 1), Int.pow_succ, Int.mul_zero]; simp
  · rw [if_neg hz]
    have bd := RS_bd (x := x) (m := P f) (by omega)
    have e1 : ((RS x (P f)).toNat : Int) = RS x (P f) := Int.toNat_of_nonneg bd.1
    have e2 : ((P f).toNat : Int) = P f := Int.toNat_of_nonneg (by omega)
    have hx : (RS x (P f)).toNat % (P f).toNat ≠ 0 := by rw [Nat.mod_eq_of_lt (by omega)]; omega
    have hm := (fldf h0 h8).pow_mod k hx
    unfold PW
    have e3 : (RS (k : Int) (P f - 1)).toNat = k % ((P f).toNat - 1) := by
      unfold RS
      rw [show P f - 1 = (((P f).toNat - 1 : Nat) : Int) by omega, ← Int.natCast_emod, Int.toNat_natCast]
    rw [e3, hm, Int.natCast_emod, Int.natCast_pow, e1, e2]
    unfold RS
    exact pow_congr (by simp) k
/-- Horner's sums. -/
def hz (f x : Int) (A : Nat → Int) (n : Nat) : Nat → Int
  | 0 => 0
  | t + 1 => RS (RS (hz f x A n t * x) (P f) + A (n - (t + 1))) (P f)
theorem hz_is (f x : Int) (A : Nat → Int) (n : Nat) : ∀ t, t ≤ n → hz f x A n t % P f = evN x (fun j => A (n - t + j)) t % P f := by
  intro t
  induction t with
  | zero => intro _; rfl
  | succ t ih =>
    intro ht
    rw [evN_succ]
    have e : tl (fun j => A (n - (t + 1) + j)) = fun j => A (n - t + j) := by
      funext j
      show A (n - (t + 1) + (j + 1)) = _
      rw [show n - (t + 1) + (j + 1) = n - t + j by omega]
    rw [e]
    unfold hz RS
    rw [Int.emod_emod_of_dvd _ (Int.dvd_refl _), Int.add_comm]
    refine emod_add_congr rfl ?_
    rw [Int.emod_emod_of_dvd _ (Int.dvd_refl _), Int.mul_comm]
    exact emod_mul_congr rfl (ih (by omega))
theorem hz_bd {f x : Int} (hp : 0 < P f) (A : Nat → Int) (n t : Nat) : 0 ≤ hz f x A n t ∧ hz f x A n t < P f := by
  cases t with
  | zero => exact ⟨Int.le_refl _, hp⟩
  | succ t => exact RS_bd hp
theorem hz_end {f x : Int} (hp : 0 < P f) (l : List Int) : hz f x (lf l) l.length l.length = evL f x l := by
  have h := hz_is f x (lf l) l.length l.length (Nat.le_refl _)
  have b := hz_bd (x := x) hp (lf l) l.length l.length
  rw [Int.emod_eq_of_lt b.1 b.2] at h
  rw [h]
  unfold evL RS
  exact evN_mod _ rfl (fun j => by rw [show l.length - l.length + j = j by omega])
set_option maxRecDepth 100000 in
set_option maxHeartbeats 1600000 in
theorem value_some (f x : Int) (b off n cap : Nat) (A : Nat → Int) (w : World) (ht : Tab w) (h0 : 0 ≤ f) (h8 : f ≤ 8) (hn : n ≤ 4096) (x0 : 0 ≤ x) (x1 : x < P f) (hA : ∀ j, 0 ≤ A j ∧ A j < P f) (hlt : b < w.heap.size) (hc : ∀ j, j < n → w.cell? ⟨b, off + j, none⟩ = some (.int .i64 (A j))) :
    Calls Tryd.prog 48 #[.int .i64 f, .slice (some ⟨b, off, none⟩) n cap, .int .i64 x] w (IntP w (hz f x A n n)) := by
  have HC := Lib.hid hc
  have HA := Lib.hid hA
  clear hc hA
  have hp := P_bd h0 h8
  go_enter Tryd.func48, Tryd.ntmps48
  go_wp2_with fail
  go_loopw [7, 8] (fun s i wr => ∃ t : Nat, i = .int .i64 ((n : Int) - t - 1) ∧ t ≤ n ∧ s = .int .i64 (hz f x A n t) ∧ Below w.heap.size w wr) (fun _ i _ => (intOf i + 1).toNat)
  case atStart => exact ⟨0, vint (by omega), Nat.zero_le _, rfl, Below.refl _ _⟩
  case round =>
    obtain ⟨t, rfl, htn, rfl, hb⟩ := hrel
    by_cases h1 : t < n
    · obtain ⟨k, hk⟩ : ∃ k, n = t + 1 + k := ⟨n - (t + 1), by omega⟩
      have ei : (n : Int) - t - 1 = (k : Int) := by omega
      rw [ei]
      have d1 : wr.cell? ⟨b, off + k, none⟩ = some (.int .i64 (A k)) := (hb.cell (p := ⟨b, off + k, none⟩) hlt).trans (HC.out k (by omega))
      have hkn : (k : Int) < n := by omega
      have HT := Lib.hid (fun q => Tab.keep (w' := wr.drewN q) (ht.below hb) (fun _ => rfl))
      have bs := hz_bd (f := f) (x := x) (by omega) A n t
      have bA := HA.out k
      have bm := RS_bd (x := hz f x A n t * x) (m := P f) (by omega)
      have HE : Hid (RS (RS (hz f x A n t * x) (P f) + A k) (P f) = hz f x A n (t + 1)) := Lib.hid (by rw [hz, show n - (t + 1) = k by omega])
      have HR : Hid ((k : Int) - 1 = (n : Int) - ((t + 1 : Nat) : Int) - 1) := Lib.hid (by omega)
      generalize hz f x A n t = X at *
      clear hk ei
      go_wp2
      go_quiet ((first | (go_at_call 61; exact quiet_left (mul_c f X x _ (HT.out _) h0 h8 bs.1 bs.2 x0 x1)) | (go_at_call 63; exact quiet_left (add_c f (RS (X * x) (P f)) (A k) _ (HT.out _) h0 h8 bm.1 bm.2 bA.1 bA.2))))
      go_wp2
      go_roundw
      case rel => exact ⟨t + 1, vint HR.out, by omega, vint HE.out, below_drewN hb _⟩
      case measure => simp [intOf] <;> omega
    · have hd : decide ((0 : Int) ≤ (n : Int) - t - 1) = false := by simp; omega
      obtain rfl : t = n := by omega
      go_wp2
      go_ret
      exact ⟨rfl, hb⟩
theorem value_none (f x : Int) (a : Option Addr) (cap : Nat) (w : World) : Calls Tryd.prog 48 #[.int .i64 f, .slice a 0 cap, .int .i64 x] w (IntP w 0) := by
  go_enter Tryd.func48, Tryd.ntmps48
  go_wp2_with fail
  refine wp_loop_rounds 1 ?_
  rw [rounds_succ]
  go_wp2
  go_ret
  exact ⟨rfl, Below.refl _ _⟩
theorem value_c (f x : Int) (a : Option Addr) (l : List Int) (cap : Nat) (w : World) (ht : Tab w) (h0 : 0 ≤ f) (h8 : f ≤ 8) (hn : l.length ≤ 4096) (x0 : 0 ≤ x) (x1 : x < P f) (hl : Pol f l) (hs : Src w a l.length (lf l)) :
    Calls Tryd.prog 48 #[.int .i64 f, .slice a l.length cap, .int .i64 x] w (IntP w (evL f x l)) := by
  rw [← hz_end (P_pos h0 h8) l]
  rcases hs with hz0 | ⟨b, off, rfl, hlt, hc⟩
  · rw [hz0]
    exact value_none f x a cap w
  · exact value_some f x b off l.length cap (lf l) w ht h0 h8 hn x0 x1 hl.1 hlt hc
set_option maxRecDepth 100000 in
theorem iEvalPoly (f : Int) (a : Option Addr) (l : List Int) (cap : Nat) (x : Int) (w : World) (hn : l.length ≤ 1048576) (hs : Src w a l.length (lf l)) (ht : Tab w) : Calls Tryd.prog 22 #[.int .i64 f, .slice a l.length cap, .int .i64 x] w (IntP w (mEvalPoly f l x)) := by
  have R1 := iPolyOk f a l cap w hn hs ht
  by_cases hk : PolOk f l
  · rw [pok_iff.2 hk] at R1
    have h0 := hk.1.1
    have h8 := hk.1.2
    have hp := P_bd h0 h8
    have xb := RS_bd (x := x) (m := P f) (by omega)
    have HE : Hid (evL f (RS x (P f)) l = mEvalPoly f l x) := Lib.hid (by unfold mEvalPoly; rw [if_pos hk]; exact evL_arg (by unfold RS; simp) l)
    have HV := Lib.hid (value_c f (RS x (P f)) a l cap w ht h0 h8 (by have := hk.2.1; omega) xb.1 xb.2 hk.2.2 hs)
    rw [← HE.out]
    clear hk hs
    go_enter Tryd.func22, Tryd.ntmps22
    go_wp2_with fail
    refine R1.mono ?_
    rintro e w' ⟨rfl, rfl⟩
    go_wp2_with fail
    refine (reduce_c f x w ht h0 h8).mono ?_
    rintro e w' ⟨rfl, rfl⟩
    go_wp2_with fail
    refine HV.out.mono ?_
    rintro e w2 ⟨rfl, hb⟩
    go_wp2
    go_ret
    exact ⟨rfl, hb⟩
  · rw [pok_not.2 hk] at R1
    rw [show mEvalPoly f l x = -1 by unfold mEvalPoly; rw [if_neg hk]]
    clear hk hs
    go_enter Tryd.func22, Tryd.ntmps22
    go_wp2_with fail
    refine R1.mono ?_
    rintro e w' ⟨rfl, rfl⟩
    go_wp2
    go_ret
    exact ⟨rfl, Below.refl _ _⟩
theorem ev_step {f : Int} (h0 : 0 ≤ f) (h8 : f ≤ 8) (x : Int) (A : Nat → Int) (k : Nat) : mAdd f (RS (evN x A k) (P f)) (mMul f (A k) (mPower f x k)) = RS (evN x A (k + 1)) (P f) := by
  rw [mAdd_on h0 h8, mMul_on h0 h8, power_nat h0 h8]
  have e : evN x A (k + 1) = evN x A k + A k * x ^ k := rfl
  rw [e]
  unfold RS
  refine emod_add_congr (by simp) ?_
  rw [Int.emod_emod_of_dvd _ (Int.dvd_refl _)]
  exact emod_mul_congr rfl (by simp)
set_option maxRecDepth 100000 in
set_option maxHeartbeats 1600000 in
theorem sEvalPoly (f : Int) (a : Option Addr) (l : List Int) (cap : Nat) (x : Int) (w : World) (hn : l.length ≤ 1048576) (hs : Src w a l.length (lf l)) : Calls Tryd.prog 24 #[.int .i64 f, .slice a l.length cap, .int .i64 x] w (IntP w (mEvalPoly f l x)) := by
  have R1 := sPolyOk f a l cap w hn hs
  by_cases hk : PolOk f l
  · rw [pok_iff.2 hk] at R1
    have h0 := hk.1.1
    have h8 := hk.1.2
    have l4 := hk.2.1
    rw [show mEvalPoly f l x = RS (evN x (lf l) l.length) (P f) by unfold mEvalPoly; rw [if_pos hk]; rfl]
    clear hk
    rcases hs with hz0 | ⟨b, off, rfl, hlt, hc⟩
    · rw [hz0] at R1 ⊢
      go_enter Tryd.func24, Tryd.ntmps24
      go_wp2_with fail
      refine R1.mono ?_
      rintro e w' ⟨rfl, rfl⟩
      go_wp2_with fail
      refine wp_loop_rounds 1 ?_
      rw [rounds_succ]
      go_wp2
      go_ret
      exact ⟨by simp [evN, sumN, RS], Below.refl _ _⟩
    · have HC := Lib.hid hc
      clear hc
      generalize lf l = A at *
      generalize l.length = n at *
      go_enter Tryd.func24, Tryd.ntmps24
      go_wp2_with fail
      refine R1.mono ?_
      rintro e w' ⟨rfl, rfl⟩
      go_wp2_with fail
      go_loopw [7, 8] (fun s i wr => ∃ k : Nat, i = .int .i64 k ∧ k ≤ n ∧ s = .int .i64 (RS (evN x A k) (P f)) ∧ Below w.heap.size w wr) (fun _ i _ => n - (intOf i).toNat)
      case atStart => exact ⟨0, rfl, Nat.zero_le _, by simp [evN, sumN, RS], Below.refl _ _⟩
      case round =>
        obtain ⟨k, rfl, hk, rfl, hb⟩ := hrel
        by_cases h1 : k < n
        · have d1 : wr.cell? ⟨b, off + k, none⟩ = some (.int .i64 (A k)) := (hb.cell (p := ⟨b, off + k, none⟩) hlt).trans (HC.out k h1)
          have HE := Lib.hid (ev_step h0 h8 x A k)
          generalize RS (evN x A k) (P f) = X at *
          go_wp2
          go_quiet ((first | (go_at_call 52; exact quiet_left (sPower f x k _)) | (go_at_call 23; exact quiet_left (sMul f (A k) (mPower f x k) _)) | (go_at_call 51; exact quiet_left (sAdd f X (mMul f (A k) (mPower f x k)) _))))
          go_wp2
          go_roundw
          case rel => exact ⟨k + 1, by go_num, by omega, vint HE.out, below_drewN hb _⟩
          case measure => simp [intOf]; omega
        · have hd : decide (k < n) = false := by simpa using h1
          obtain rfl : k = n := by omega
          go_wp2
          go_ret
          exact ⟨rfl, hb⟩
  · rw [pok_not.2 hk] at R1
    rw [show mEvalPoly f l x = -1 by unfold mEvalPoly; rw [if_neg hk]]
    clear hk hs
    go_enter Tryd.func24, Tryd.ntmps24
    go_wp2_with fail
    refine R1.mono ?_
    rintro e w' ⟨rfl, rfl⟩
    go_wp2
    go_ret
    exact ⟨rfl, Below.refl _ _⟩
end Go.Proofs.YtcenglbcibkniaaDoor
