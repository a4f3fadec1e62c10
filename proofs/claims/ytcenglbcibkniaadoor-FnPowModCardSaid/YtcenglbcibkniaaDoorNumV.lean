/-
  Polynomials as numbers: that quotients, remainders and powers exist, and what the drawn laws of chapter 3 ask of them.
-/
import Derived.Test.YtcenglbcibkniaaDoorNumU
namespace Go.Proofs.YtcenglbcibkniaaDoor
theorem cut_mod {f : Int} {C : Nat → Int} {N : Nat} (hN : ∀ j, N ≤ j → C j = 0) (i : Nat) : C i % P f = lf (cutL N fun j => RS (C j) (P f)) i % P f := by
  rw [lf_cutL]
  by_cases h : i < N
  · rw [if_pos h]; unfold RS; rw [Int.emod_emod_of_dvd _ (Int.dvd_refl _)]
  · rw [if_neg h, hN i (by omega)]
theorem div_is {f : Int} (h0 : 0 ≤ f) (h8 : f ≤ 8) {a b : List Int} (ha : Pol f a) (hb : Pol f b) (hl : b.length ≠ 0) : DivP f a b (quoL f a b) (remL f a b) := by
  obtain ⟨hr1, hr2, C, ⟨N, hN⟩, hC⟩ := remL_is h0 h8 ha hb hl
  have h : DivP f a b (cutL N fun j => RS (C j) (P f)) (remL f a b) := ⟨Pol.cut (P_pos h0 h8) fun _ _ => RS_bd (P_pos h0 h8), hr1, hr2, fun j => by
    rw [hC j]
    exact emod_add_congr (cv_mod j (fun i => cut_mod hN i) (fun _ => rfl)) rfl⟩
  rw [quoL_eq h0 h8 hb h]
  exact h
theorem pow_is {f : Int} (h0 : 0 ≤ f) (h8 : f ≤ 8) {a m : List Int} (e : Nat) (hm : Pol f m) (hz : m.length ≠ 0) : IsPow f a e m (powL f a e m) := by
  obtain ⟨N, hN⟩ := FinS.pow (FinS.lf a) e
  have ht : Pol f (cutL N fun j => RS (powS (lf a) e j) (P f)) := Pol.cut (P_pos h0 h8) fun _ _ => RS_bd (P_pos h0 h8)
  have h := remL_is h0 h8 ht hm hz
  have hc : Cg f m (powS (lf a) e) (lf (cutL N fun j => RS (powS (lf a) e j) (P f))) := Cg.of fun j => cut_mod hN j
  have hp : IsPow f a e m (remL f (cutL N fun j => RS (powS (lf a) e j) (P f)) m) := ⟨h.1, h.2.1, hc.trans h.2.2⟩
  rw [powL_eq h0 h8 hm hp]
  exact hp
theorem comp_polV {f : Int} (h0 : 0 ≤ f) (h8 : f ≤ 8) (m l : List Int) : Pol f (compL f m l) := by
  cases l with
  | nil => exact Pol.nil (P_pos h0 h8)
  | cons x t => exact pol_addL h0 h8 _ _
/-- What FnDivBack asks. -/
theorem divBack_facts {f : Int} {l m : List Int} (hl : PolOk f l) (hm : PolOk f m) (hz : m.length ≠ 0) :
    mDivMod2 f l m = true ∧ (mDivMod1 f l m).length < m.length ∧ (mDivMod0 f l m).length ≤ 1048576 ∧ PolOk f (mDivMod0 f l m) ∧ (mDivMod0 f l m).length + m.length ≤ 401 ∧ (mulL f (mDivMod0 f l m) m).length ≤ 1048576 ∧ mAddPoly f (mulL f (mDivMod0 f l m) m) (mDivMod1 f l m) = l := by
  obtain ⟨⟨h0, h8⟩, hl4, pl⟩ := hl
  obtain ⟨_, hm4, pm⟩ := hm
  have hok : okDiv f l m := ⟨⟨⟨h0, h8⟩, hl4, pl⟩, ⟨⟨h0, h8⟩, hm4, pm⟩, hz⟩
  have e0 : mDivMod0 f l m = quoL f l m := by unfold mDivMod0; rw [if_pos hok]
  have e1 : mDivMod1 f l m = remL f l m := by unfold mDivMod1; rw [if_pos hok]
  have e2 : mDivMod2 f l m = true := by unfold mDivMod2; simp [hok]
  have hd := div_is h0 h8 pl pm hz
  have hln := div_len h0 h8 pm hd
  have hml := mulL_le f (quoL f l m) m
  have hr := hd.2.2.1
  rw [e0, e1]
  refine ⟨e2, hr, by omega, ⟨⟨h0, h8⟩, by omega, hd.1⟩, by omega, by omega, ?_⟩
  unfold mAddPoly
  rw [if_pos ⟨⟨⟨h0, h8⟩, by omega, pol_mulL h0 h8 _ _⟩, ⟨⟨h0, h8⟩, by omega, hd.2.1⟩⟩]
  exact div_back h0 h8 pl hd
/-- What FnPowMod asks. -/
theorem powMod_facts {f : Int} {l m : List Int} {e : Int} (hl : PolOk f l) (hm : PolOk f m) (hz : m.length ≠ 0) (hl1 : l.length ≤ 100) (hm1 : m.length ≤ 100) (e0 : 0 ≤ e) (e1 : e < 1000000) :
    mPowMod1 f l e m = true ∧ mPowMod1 f l (e + 1) m = true ∧ (mPowMod0 f l e m).length ≤ 1048576 ∧ (mPowMod0 f l (e + 1) m).length ≤ 1048576 ∧ PolOk f (mPowMod0 f l e m) ∧ (mPowMod0 f l e m).length + l.length ≤ 401 ∧ (mulL f (mPowMod0 f l e m) l).length ≤ 1048576 ∧ PolOk f (mulL f (mPowMod0 f l e m) l) ∧ mDivMod2 f (mulL f (mPowMod0 f l e m) l) m = true ∧ mDivMod1 f (mulL f (mPowMod0 f l e m) l) m = mPowMod0 f l (e + 1) m := by
  have hl' := hl
  have hm' := hm
  obtain ⟨⟨h0, h8⟩, hl4, pl⟩ := hl
  obtain ⟨_, hm4, pm⟩ := hm
  have ok1 : okPow f l e m := ⟨hl', hm', hz, e0, by omega⟩
  have ok2 : okPow f l (e + 1) m := ⟨hl', hm', hz, by omega, by omega⟩
  have a0 : mPowMod0 f l e m = powL f l e.toNat m := by unfold mPowMod0; rw [if_pos ok1]
  have a1 : mPowMod0 f l (e + 1) m = powL f l (e.toNat + 1) m := by
    unfold mPowMod0; rw [if_pos ok2, show (e + 1).toNat = e.toNat + 1 by omega]
  have b0 : mPowMod1 f l e m = true := by unfold mPowMod1; simp [ok1]
  have b1 : mPowMod1 f l (e + 1) m = true := by unfold mPowMod1; simp [ok2]
  have x := pow_is (a := l) h0 h8 e.toNat pm hz
  have y := pow_is (a := l) h0 h8 (e.toNat + 1) pm hz
  have lx := x.2.1
  have ly := y.2.1
  have hml := mulL_le f (powL f l e.toNat m) l
  have pml := pol_mulL h0 h8 (powL f l e.toNat m) l
  have hrem := remL_is h0 h8 pml pm hz
  rw [a0, a1]
  have okp : PolOk f (mulL f (powL f l e.toNat m) l) := ⟨⟨h0, h8⟩, by omega, pml⟩
  have okd : okDiv f (mulL f (powL f l e.toNat m) l) m := ⟨okp, hm', hz⟩
  refine ⟨b0, b1, by omega, by omega, ⟨⟨h0, h8⟩, by omega, x.1⟩, by omega, by omega, okp, ?_, ?_⟩
  · unfold mDivMod2; simp [okd]
  · unfold mDivMod1
    rw [if_pos okd]
    exact IsPow.succ h0 h8 pm x y hrem
theorem pok_gcd {f : Int} {l m : List Int} (hl : PolOk f l) (hm : PolOk f m) (hz : l.length + m.length ≠ 0) :
    PolOk f (gcdM f l m) ∧ (gcdM f l m).length ≠ 0 ∧ lf (gcdM f l m) ((gcdM f l m).length - 1) = 1 ∧ (gcdM f l m).length ≤ max l.length m.length := by
  obtain ⟨⟨h0, h8⟩, hl4, pl⟩ := hl
  obtain ⟨_, hm4, pm⟩ := hm
  have hb := gcd_both h0 h8 m.length l m (Nat.le_refl _) pl pm
  have hn := gcd_nz h0 h8 m.length l m (Nat.le_refl _) hz
  have hlen := monL_len h0 h8 hb.1 hn
  have htop := monL_top h0 h8 hb.1 hn
  have hmax := len_gcdM h0 h8 l m
  have e : gcdM f l m = monL f (gcdL f l m) := rfl
  refine ⟨⟨⟨h0, h8⟩, by omega, ?_⟩, ?_, ?_, hmax⟩
  · rw [e]; exact monL_pol h0 h8 _
  · rw [e, hlen]; exact hn
  · rw [e, hlen]; exact htop
theorem gcd_rem {f : Int} {l m : List Int} (hl : PolOk f l) (hm : PolOk f m) (hz : l.length + m.length ≠ 0) :
    mDivMod1 f l (gcdM f l m) = [] ∧ mDivMod2 f l (gcdM f l m) = true ∧ mDivMod1 f m (gcdM f l m) = [] ∧ mDivMod2 f m (gcdM f l m) = true := by
  obtain ⟨gk, gz, _, _⟩ := pok_gcd hl hm hz
  have okl : okDiv f l (gcdM f l m) := ⟨hl, gk, gz⟩
  have okm : okDiv f m (gcdM f l m) := ⟨hm, gk, gz⟩
  obtain ⟨⟨h0, h8⟩, hl4, pl⟩ := hl
  obtain ⟨_, hm4, pm⟩ := hm
  have hb := gcd_both h0 h8 m.length l m (Nat.le_refl _) pl pm
  have hn := gcd_nz h0 h8 m.length l m (Nat.le_refl _) hz
  have d1 : Dv f (gcdM f l m) (lf l) := monL_dv h0 h8 hb.1 hn hb.2.1
  have d2 : Dv f (gcdM f l m) (lf m) := monL_dv h0 h8 hb.1 hn hb.2.2
  have r1 := remL_eq h0 h8 gk.2.2 (Dv.rem h0 h8 gz d1)
  have r2 := remL_eq h0 h8 gk.2.2 (Dv.rem h0 h8 gz d2)
  refine ⟨?_, ?_, ?_, ?_⟩
  · unfold mDivMod1; rw [if_pos okl]; exact r1
  · unfold mDivMod2; simp [okl]
  · unfold mDivMod1; rw [if_pos okm]; exact r2
  · unfold mDivMod2; simp [okm]
theorem pol_two {f x : Int} (h0 : 0 ≤ f) (h8 : f ≤ 8) (x0 : 0 ≤ x) (x1 : x < P f) : Pol f [x, 1] := by
  have hp := P_bd h0 h8
  refine ⟨fun j => ?_, .inr ?_⟩
  · match j with
    | 0 => exact ⟨x0, x1⟩
    | 1 => exact ⟨show (0 : Int) ≤ 1 by omega, show (1 : Int) < P f by omega⟩
    | j + 2 => rw [lf_out [x, 1] (show 2 ≤ j + 2 by omega)]; omega
  · show lf [x, 1] 1 ≠ 0
    show (1 : Int) ≠ 0
    omega
theorem gcd_prod {f : Int} {l m d : List Int} (hl : PolOk f l) (hm : PolOk f m) (hd : Pol f d) (hz : l.length + m.length ≠ 0) (h2 : d.length = 2) (h1 : lf d 1 = 1) (k1 : okMul f l d) (k2 : okMul f m d) :
    PolOk f (mulL f l d) ∧ PolOk f (mulL f m d) ∧ okMul f (gcdM f l m) d ∧ mGcdPoly f (mulL f l d) (mulL f m d) = mulL f (gcdM f l m) d := by
  obtain ⟨gk, gz, _, gle⟩ := pok_gcd hl hm hz
  have hdk := k1.2.1
  have n1 := k1.2.2
  have n2 := k2.2.2
  have q1 := mulL_le f l d
  have q2 := mulL_le f m d
  obtain ⟨⟨h0, h8⟩, hl4, pl⟩ := hl
  obtain ⟨_, hm4, pm⟩ := hm
  have hd0 : d.length ≠ 0 := by omega
  have hb := gcd_both h0 h8 m.length l m (Nat.le_refl _) pl pm
  have hn := gcd_nz h0 h8 m.length l m (Nat.le_refl _) hz
  have p1 : PolOk f (mulL f l d) := ⟨⟨h0, h8⟩, by omega, pol_mulL h0 h8 _ _⟩
  have p2 : PolOk f (mulL f m d) := ⟨⟨h0, h8⟩, by omega, pol_mulL h0 h8 _ _⟩
  refine ⟨p1, p2, ⟨gk, hdk, by omega⟩, ?_⟩
  unfold mGcdPoly
  rw [if_pos ⟨p1, p2⟩]
  show monL f (gcdL f (mulL f l d) (mulL f m d)) = mulL f (monL f (gcdL f l m)) d
  rw [gcd_mul h0 h8 hd hd0 m.length l m (Nat.le_refl _) pl pm]
  exact mon_mul h0 h8 hb.1 hd hn hd0 (by rw [h2]; exact h1)
/-- What FnEvalProduct asks. -/
theorem evalProduct_facts {f : Int} {l m : List Int} (hl : PolOk f l) (hm : PolOk f m) (hlm : l.length + m.length ≤ 401) (x : Int) :
    mEvalPoly f (mulL f l m) x = mMul f (mEvalPoly f l x) (mEvalPoly f m x) ∧ okMul f l m ∧ PolOk f (mulL f l m) ∧ (mCompose1 f l m = true → mEvalPoly f (mCompose0 f l m) x = mEvalPoly f l (mEvalPoly f m x)) := by
  have hl' := hl
  have hm' := hm
  obtain ⟨⟨h0, h8⟩, hl4, pl⟩ := hl
  obtain ⟨_, hm4, pm⟩ := hm
  have hml := mulL_le f l m
  have pk : PolOk f (mulL f l m) := ⟨⟨h0, h8⟩, by omega, pol_mulL h0 h8 _ _⟩
  refine ⟨?_, ⟨hl', hm', hlm⟩, pk, fun h => ?_⟩
  · unfold mEvalPoly mMul
    rw [if_pos pk, if_pos hl', if_pos hm', if_pos ⟨h0, h8⟩]
    exact evL_mul f x l m
  · have ok : okComp f l m := by unfold mCompose1 at h; simpa using h
    have hle := comp_le ok
    have pc : PolOk f (compL f m l) := ⟨⟨h0, h8⟩, hle, comp_polV h0 h8 m l⟩
    have e : mCompose0 f l m = compL f m l := by unfold mCompose0; rw [if_pos ok]
    rw [e]
    unfold mEvalPoly
    rw [if_pos pc, if_pos hl', if_pos hm']
    exact evL_comp f x m l
end Go.Proofs.YtcenglbcibkniaaDoor
