/-
  Texts of the proofs of this seat, joined (part 3).
-/
import Derived.Test.YthmbgiidfngmdabDoorJ2
namespace Go.Proofs.YthmbgiidfngmdabDoor
open Go.RowKit
theorem lf_one : lf [1] = oneS := by
  funext j
  cases j with
  | zero => rfl
  | succ j => simp [lf, oneS]
theorem one_cut : cutL 1 (fun _ => (1 : Int)) = [1] := rfl
theorem pol_one {f : Int} (h0 : 0 ≤ f) (h8 : f ≤ 8) : Pol f [1] := by
  have hp := P_bd h0 h8
  rw [← one_cut]
  exact Pol.cut (by omega) fun _ _ => by omega
theorem src_one (w : World) (x : Int) : Src (w.alloc (.cells #[.int .i64 x] 3)) (some ⟨w.heap.size, 0, none⟩) 1 (fun _ => x) :=
  .inr ⟨w.heap.size, 0, rfl, by simp, fun j hj => by
    obtain rfl : j = 0 := by omega
    rw [World.cell?_alloc_at _ _ _ _ rfl]; rfl⟩
theorem src_one1 (w : World) : Src (w.alloc (.cells #[.int .i64 1] 3)) (some ⟨w.heap.size, 0, none⟩) ([1] : List Int).length (lf [1]) := by
  rcases src_one w 1 with h | ⟨b, off, e, hlt, hc⟩
  · omega
  · refine .inr ⟨b, off, e, hlt, fun j hj => ?_⟩
    have hj2 : j < 1 := hj
    obtain rfl : j = 0 := by omega
    exact hc 0 (by omega)
set_option maxRecDepth 100000 in
set_option maxHeartbeats 3200000 in
theorem pow_c (f e0 : Int) (a a2 : Option Addr) (l m : List Int) (cap cap2 : Nat) (w : World) (ht : Tab w) (h0 : 0 ≤ f) (h8 : f ≤ 8) (hn : l.length ≤ 400) (hn2 : m.length ≤ 400) (hz : m.length ≠ 0) (he0 : 0 ≤ e0) (he1 : e0 ≤ 1000000) (hl : Pol f l) (hm : Pol f m) (hs : Src w a l.length (lf l)) (hs2 : Src w a2 m.length (lf m)) :
    Calls Tryd.prog 48 #[.int .i64 f, .slice a l.length cap, .int .i64 e0, .slice a2 m.length cap2] w (OwnG w (powL f l e0.toNat m)) := by
  have HS := Lib.hid hs
  have HS2 := Lib.hid hs2
  have HPL := Lib.hid hl
  have HPM := Lib.hid hm
  have HU : Hid (∀ r s, PowAt f m (lf l) e0.toNat 0 r s → powL f l e0.toNat m = r) := Lib.hid fun r s h => powL_eq h0 h8 hm h.last
  have HST : Hid (PowAt f m (lf l) e0.toNat e0.toNat (remL f [1] m) (remL f l m)) := Lib.hid (PowAt.first (by have := remL_is h0 h8 (pol_one h0 h8) hm hz; rwa [lf_one] at this) (remL_is h0 h8 hl hm hz))
  have BA : Hid (∀ o, Below w.heap.size w (w.alloc o)) := Lib.hid fun o => (Below.refl _ _).alloc (Nat.le_refl _) o
  clear hs hs2 hl hm
  obtain ⟨E, hE⟩ : ∃ E, e0.toNat = E := ⟨_, rfl⟩
  rw [hE] at HU HST ⊢
  have HEE := Lib.hid hE
  clear hE
  have HPO := Lib.hid (poly_c (some ⟨w.heap.size, 0, none⟩) 1 1 (fun _ => 1) (w.alloc (.cells #[.int .i64 1] 3)) (by omega) (src_one w 1))
  rw [one_cut] at HPO
  go_enter Tryd.func48, Tryd.ntmps48
  go_wp2_with fail
  refine HPO.out.mono ?_
  rintro e w1 ho1
  obtain ⟨g1, rfl, hg1, hO1, hb1⟩ := ho1.up (BA.out _)
  have HD1 := Lib.hid (remainder_c f (some ⟨g1, 0, none⟩) a2 [1] m 1 cap2 w1 (ht.below hb1) h0 h8 (by show 1 ≤ 4096; omega) (by omega) hz (pol_one h0 h8) HPM.out hO1.src (HS2.out.keep hb1))
  clear ho1 hO1 HPO
  go_wp2_with fail
  refine HD1.out.mono ?_
  rintro e w2 ⟨g2, rfl, hg2, hO2, hb2⟩
  have hb2' := below_up hb1 hb2 hb1.size
  have HD2 := Lib.hid (remainder_c f a a2 l m cap cap2 w2 (ht.below hb2') h0 h8 (by omega) (by omega) hz HPL.out HPM.out (HS.out.keep hb2') (HS2.out.keep hb2'))
  have HO2 := Lib.hid hO2
  clear hO2 HD1
  go_wp2_with fail
  refine HD2.out.mono ?_
  rintro e w3 ⟨g3, rfl, hg3, hO3, hb3⟩
  have HB3 := Lib.hid (below_up hb2' hb3 hb2'.size)
  have HO3 := Lib.hid (HO2.out.keep hb3)
  have HS3 := Lib.hid hO3.src
  have hgw : w.heap.size ≤ g2 := Nat.le_trans hb1.size hg2
  clear hO3 HO2 HD2 hb1 hb2 hb2' hb3
  go_wp2_with fail
  go_loopw [2, 9, 10] (fun ve vr vs wr => ∃ (k : Int) (r s : List Int) (gr : Nat) (sa : Option Addr) (cs : Nat), ve = .int .i64 k ∧ vr = .slice (some ⟨gr, 0, none⟩) r.length r.length ∧ vs = .slice sa s.length cs ∧ w.heap.size ≤ gr ∧ Own wr gr r.length (lf r) ∧ Src wr sa s.length (lf s) ∧ 0 ≤ k ∧ k ≤ 1000000 ∧ PowAt f m (lf l) E k.toNat r s ∧ Below w.heap.size w wr) (fun ve _ _ _ => (intOf ve).toNat)
  case atStart => exact ⟨e0, _, _, g2, _, _, rfl, rfl, rfl, hgw, HO3.out, HS3.out, he0, he1, by rw [HEE.out]; exact HST.out, HB3.out⟩
  case round =>
    clear HO3 HS3 HST HB3
    obtain ⟨k, r, s, gr, sa, cs, rfl, rfl, rfl, hgr, hor, hss, k0, k1, hat, hb⟩ := hrel
    have pr := hat.1.1
    have lr := hat.1.2
    have ps := hat.2.1.1
    have ls := hat.2.1.2
    by_cases hk : 0 < k
    · by_cases h2 : k % 2 = 1
      · have HM1 := Lib.hid (product_c f (some ⟨gr, 0, none⟩) sa r s r.length cs wr (ht.below hb) h0 h8 (by omega) (by omega) pr ps hor.src hss)
        have LM1 : (mulL f r s).length ≤ 4096 := by have := mulL_le f r s; omega
        have HPM1 : Hid (Pol f (mulL f r s)) := Lib.hid (pol_mulL h0 h8 r s)
        have HR1 : Hid (IsRem f (lf (mulL f r s)) m (remL f (mulL f r s) m)) := Lib.hid (remL_is h0 h8 HPM1.out HPM.out hz)
        have LM2 : (mulL f s s).length ≤ 4096 := by have := mulL_le f s s; omega
        have HPM2 : Hid (Pol f (mulL f s s)) := Lib.hid (pol_mulL h0 h8 s s)
        have HR2 : Hid (IsRem f (lf (mulL f s s)) m (remL f (mulL f s s) m)) := Lib.hid (remL_is h0 h8 HPM2.out HPM.out hz)
        have HN : Hid (PowAt f m (lf l) E (k / 2).toNat (remL f (mulL f r s) m) (remL f (mulL f s s) m)) := Lib.hid (by rw [show (k / 2).toNat = k.toNat / 2 by omega]; exact hat.odd (by omega) HR1.out HR2.out)
        have e2 : (k % 2 == 1) = true := by simp [h2]
        have HSS := Lib.hid hss
        have HPS := Lib.hid ps
        clear h2 hat hor hss pr ps
        go_wp2_with fail
        refine HM1.out.mono ?_
        rintro e w3 ⟨g3, rfl, hg3, ho3, hb3⟩
        have hb3' := below_up hb hb3 hb.size
        have HD1 := Lib.hid (remainder_c f (some ⟨g3, 0, none⟩) a2 (mulL f r s) m (mulL f r s).length cap2 w3 (ht.below hb3') h0 h8 LM1 (by omega) hz HPM1.out HPM.out ho3.src (HS2.out.keep hb3'))
        clear ho3 HM1
        go_wp2_with fail
        refine HD1.out.mono ?_
        rintro e w4 ⟨g4, rfl, hg4, ho4, hb4⟩
        have hb4' := below_up hb3' hb4 hb3'.size
        have hs4 := HSS.out.keep (below_up hb3 hb4 hb3.size)
        have HM2 := Lib.hid (product_c f sa sa s s cs cs w4 (ht.below hb4') h0 h8 (by omega) (by omega) HPS.out HPS.out hs4 hs4)
        have HO4 := Lib.hid ho4
        clear ho4 HD1 hs4
        go_wp2_with fail
        refine HM2.out.mono ?_
        rintro e w5 ⟨g5, rfl, hg5, ho5, hb5⟩
        have hb5' := below_up hb4' hb5 hb4'.size
        have HD2 := Lib.hid (remainder_c f (some ⟨g5, 0, none⟩) a2 (mulL f s s) m (mulL f s s).length cap2 w5 (ht.below hb5') h0 h8 LM2 (by omega) hz HPM2.out HPM.out ho5.src (HS2.out.keep hb5'))
        have HO5 := Lib.hid (HO4.out.keep hb5)
        clear ho5 HM2 HO4
        go_wp2_with fail
        refine HD2.out.mono ?_
        rintro e w6 ⟨g6, rfl, hg6, ho6, hb6⟩
        have HB6 := Lib.hid (below_up hb5' hb6 hb5'.size)
        have HS6 := Lib.hid ho6.src
        have HO6 := Lib.hid (HO5.out.keep hb6)
        have hgw : w.heap.size ≤ g4 := Nat.le_trans hb3'.size hg4
        clear ho6 HD2 HO5
        go_wp2
        go_roundw
        case rel => exact ⟨k / 2, _, _, g4, _, _, rfl, rfl, rfl, hgw, HO6.out, HS6.out, by omega, by omega, HN.out, HB6.out⟩
        case measure => simp [intOf] <;> omega
      · have LM2 : (mulL f s s).length ≤ 4096 := by have := mulL_le f s s; omega
        have HPM2 : Hid (Pol f (mulL f s s)) := Lib.hid (pol_mulL h0 h8 s s)
        have HR2 : Hid (IsRem f (lf (mulL f s s)) m (remL f (mulL f s s) m)) := Lib.hid (remL_is h0 h8 HPM2.out HPM.out hz)
        have HN : Hid (PowAt f m (lf l) E (k / 2).toNat r (remL f (mulL f s s) m)) := Lib.hid (by rw [show (k / 2).toNat = k.toNat / 2 by omega]; exact hat.even (by omega) HR2.out)
        have e2 : (k % 2 == 1) = false := by simp [h2]
        have HM2 := Lib.hid (product_c f sa sa s s cs cs wr (ht.below hb) h0 h8 (by omega) (by omega) ps ps hss hss)
        have HOR := Lib.hid hor
        clear h2 hat hor hss pr ps
        go_wp2_with fail
        refine HM2.out.mono ?_
        rintro e w5 ⟨g5, rfl, hg5, ho5, hb5⟩
        have hb5' := below_up hb hb5 hb.size
        have HD2 := Lib.hid (remainder_c f (some ⟨g5, 0, none⟩) a2 (mulL f s s) m (mulL f s s).length cap2 w5 (ht.below hb5') h0 h8 LM2 (by omega) hz HPM2.out HPM.out ho5.src (HS2.out.keep hb5'))
        have HO5 := Lib.hid (HOR.out.keep hb5)
        clear ho5 HM2 HOR
        go_wp2_with fail
        refine HD2.out.mono ?_
        rintro e w6 ⟨g6, rfl, hg6, ho6, hb6⟩
        have HB6 := Lib.hid (below_up hb5' hb6 hb5'.size)
        have HS6 := Lib.hid ho6.src
        have HO6 := Lib.hid (HO5.out.keep hb6)
        clear ho6 HD2 HO5
        go_wp2
        go_roundw
        case rel => exact ⟨k / 2, _, _, gr, _, _, rfl, rfl, rfl, hgr, HO6.out, HS6.out, by omega, by omega, HN.out, HB6.out⟩
        case measure => simp [intOf] <;> omega
    · obtain rfl : k = 0 := by omega
      have HE : Hid (powL f l E m = r) := Lib.hid (HU.out r s hat)
      have HO := Lib.hid hor
      clear hat hor hss pr ps
      go_wp2
      go_ret
      rw [HE.out]
      exact ⟨gr, rfl, hgr, HO.out, hb⟩
theorem powm_on {f e : Int} {l m : List Int} (h : okPow f l e m) : mPowMod0 f l e m = powL f l e.toNat m ∧ mPowMod1 f l e m = true := by unfold mPowMod0 mPowMod1; rw [if_pos h]; exact ⟨rfl, by simp [h]⟩
theorem powm_off {f e : Int} {l m : List Int} (h : ¬ okPow f l e m) : mPowMod0 f l e m = [] ∧ mPowMod1 f l e m = false := by unfold mPowMod0 mPowMod1; rw [if_neg h]; exact ⟨rfl, by simp [h]⟩
set_option maxRecDepth 100000 in
set_option maxHeartbeats 1600000 in
theorem iPowMod (f : Int) (a : Option Addr) (l : List Int) (cap : Nat) (e0 : Int) (a2 : Option Addr) (m : List Int) (cap2 : Nat) (w : World) (hn : l.length ≤ 1048576) (hn2 : m.length ≤ 1048576) (hs : Src w a l.length (lf l)) (hs2 : Src w a2 m.length (lf m)) (ht : Tab w) :
    Calls Tryd.prog 25 #[.int .i64 f, .slice a l.length cap, .int .i64 e0, .slice a2 m.length cap2] w (OwnLB w (mPowMod0 f l e0 m) (mPowMod1 f l e0 m)) := by
  have HS := Lib.hid hs
  have HS2 := Lib.hid hs2
  have BA : Hid (∀ o, Below w.heap.size w (w.alloc o)) := Lib.hid fun o => (Below.refl _ _).alloc (Nat.le_refl _) o
  clear hs hs2
  by_cases hp : PolOk f l ∧ PolOk f m
  · have HB : Hid ((mPolyOk f l && mPolyOk f m) = true) := Lib.hid (by rw [pok_iff.2 hp.1, pok_iff.2 hp.2]; rfl)
    have HP := Lib.hid hp
    by_cases hz : m.length = 0
    · have HX := Lib.hid (powm_off (f := f) (l := l) (e := e0) (m := m) fun h => h.2.2.1 hz)
      rw [HX.out.1, HX.out.2]
      have HM : Hid (m = []) := Lib.hid (List.eq_nil_of_length_eq_zero hz)
      have ez : ((m.length : Int) == 0) = true := by simp [HM.out]
      clear hp hz HX
      go_enter Tryd.func25, Tryd.ntmps25
      go_wp2_with fail
      refine (arePolys_c f w.heap.size a a2 l m cap cap2 _ hn hn2 (HS.out.keep (BA.out _)) (HS2.out.keep (BA.out _)) (ht.below (BA.out _)) (cell_two _ _ _ _).1 (cell_two _ _ _ _).2).mono ?_
      rintro e w' ⟨rfl, rfl⟩
      rw [HB.out]
      go_wp2
      go_ret2
      exact ⟨none, 0, rfl, OwnA.nil rfl, BA.out _⟩
    · have ez : ((m.length : Int) == 0) = false := by simp; intro h; exact hz (by rw [h]; rfl)
      by_cases e1 : e0 < 0
      · have HX := Lib.hid (powm_off (f := f) (l := l) (e := e0) (m := m) fun h => by have := h.2.2.2.1; omega)
        rw [HX.out.1, HX.out.2]
        clear hp hz HX
        go_enter Tryd.func25, Tryd.ntmps25
        go_wp2_with fail
        refine (arePolys_c f w.heap.size a a2 l m cap cap2 _ hn hn2 (HS.out.keep (BA.out _)) (HS2.out.keep (BA.out _)) (ht.below (BA.out _)) (cell_two _ _ _ _).1 (cell_two _ _ _ _).2).mono ?_
        rintro e w' ⟨rfl, rfl⟩
        rw [HB.out]
        go_wp2
        go_ret2
        exact ⟨none, 0, rfl, OwnA.nil rfl, BA.out _⟩
      · have d1 : decide (e0 < 0) = false := decide_eq_false e1
        by_cases e2 : 1000000 < e0
        · have HX := Lib.hid (powm_off (f := f) (l := l) (e := e0) (m := m) fun h => by have := h.2.2.2.2; omega)
          rw [HX.out.1, HX.out.2]
          clear hp hz HX
          go_enter Tryd.func25, Tryd.ntmps25
          go_wp2_with fail
          refine (arePolys_c f w.heap.size a a2 l m cap cap2 _ hn hn2 (HS.out.keep (BA.out _)) (HS2.out.keep (BA.out _)) (ht.below (BA.out _)) (cell_two _ _ _ _).1 (cell_two _ _ _ _).2).mono ?_
          rintro e w' ⟨rfl, rfl⟩
          rw [HB.out]
          go_wp2
          go_ret2
          exact ⟨none, 0, rfl, OwnA.nil rfl, BA.out _⟩
        · have d2 : decide (1000000 < e0) = false := decide_eq_false e2
          have HX := Lib.hid (powm_on (f := f) (l := l) (e := e0) (m := m) ⟨hp.1, hp.2, hz, by omega, by omega⟩)
          rw [HX.out.1, HX.out.2]
          clear hp HX
          go_enter Tryd.func25, Tryd.ntmps25
          go_wp2_with fail
          refine (arePolys_c f w.heap.size a a2 l m cap cap2 _ hn hn2 (HS.out.keep (BA.out _)) (HS2.out.keep (BA.out _)) (ht.below (BA.out _)) (cell_two _ _ _ _).1 (cell_two _ _ _ _).2).mono ?_
          rintro e w' ⟨rfl, rfl⟩
          rw [HB.out]
          go_wp2_with fail
          refine (pow_c f e0 a a2 l m cap cap2 _ (ht.below (BA.out _)) HP.out.1.1.1 HP.out.1.1.2 HP.out.1.2.1 HP.out.2.2.1 hz (by omega) (by omega) HP.out.1.2.2 HP.out.2.2.2 (HS.out.keep (BA.out _)) (HS2.out.keep (BA.out _))).mono ?_
          rintro e w2 ho
          obtain ⟨g, rfl, hg, hO, hB⟩ := ho.up (BA.out _)
          have HO := Lib.hid hO
          clear hO ho
          go_wp2
          go_ret2
          exact OwnG.finishB hg HO.out hB
  · have HB : Hid ((mPolyOk f l && mPolyOk f m) = false) := Lib.hid (by
      by_cases h1 : PolOk f l
      · rw [pok_not.2 fun h => hp ⟨h1, h⟩, Bool.and_false]
      · rw [pok_not.2 h1, Bool.false_and])
    have HX := Lib.hid (powm_off (f := f) (l := l) (e := e0) (m := m) fun h => hp ⟨h.1, h.2.1⟩)
    rw [HX.out.1, HX.out.2]
    clear hp HX
    go_enter Tryd.func25, Tryd.ntmps25
    go_wp2_with fail
    refine (arePolys_c f w.heap.size a a2 l m cap cap2 _ hn hn2 (HS.out.keep (BA.out _)) (HS2.out.keep (BA.out _)) (ht.below (BA.out _)) (cell_two _ _ _ _).1 (cell_two _ _ _ _).2).mono ?_
    rintro e w' ⟨rfl, rfl⟩
    rw [HB.out]
    go_wp2
    go_ret2
    exact ⟨none, 0, rfl, OwnA.nil rfl, BA.out _⟩
set_option maxRecDepth 100000 in
set_option maxHeartbeats 3200000 in
theorem sPow_on (f : Int) (a : Option Addr) (l : List Int) (cap : Nat) (e0 : Int) (a2 : Option Addr) (m : List Int) (cap2 : Nat) (w : World) (hn : l.length ≤ 1048576) (hn2 : m.length ≤ 1048576) (hs : Src w a l.length (lf l)) (hs2 : Src w a2 m.length (lf m)) (hok : okPow f l e0 m) :
    Calls Tryd.prog 24 #[.int .i64 f, .slice a l.length cap, .int .i64 e0, .slice a2 m.length cap2] w (ListLB w (powL f l e0.toNat m) true) := by
  have R1 := sPolyOk f a l cap w hn hs
  have R2 := sPolyOk f a2 m cap2 w hn2 hs2
  obtain ⟨hp1, hp2, hz, he0, he1⟩ := hok
  rw [pok_iff.2 hp1] at R1
  rw [pok_iff.2 hp2] at R2
  obtain ⟨⟨h0, h8⟩, l4, hl⟩ := hp1
  obtain ⟨_, m4, hm⟩ := hp2
  have HS := Lib.hid hs
  have HS2 := Lib.hid hs2
  have HPL := Lib.hid hl
  have HPM := Lib.hid hm
  have HU : Hid (∀ r s, PowAt f m (lf l) e0.toNat 0 r s → powL f l e0.toNat m = r) := Lib.hid fun r s h => powL_eq h0 h8 hm h.last
  have HST : Hid (∀ q1 r1 q2 r2, DivP f [1] m q1 r1 → DivP f l m q2 r2 → PowAt f m (lf l) e0.toNat e0.toNat r1 r2) := Lib.hid fun q1 r1 q2 r2 d1 d2 => PowAt.first (by have := d1.isRem; rwa [lf_one] at this) d2.isRem
  have BA : Hid (∀ o, Below w.heap.size w (w.alloc o)) := Lib.hid fun o => (Below.refl _ _).alloc (Nat.le_refl _) o
  have ez : ((m.length : Int) == 0) = false := by simp; intro h; exact hz (by rw [h]; rfl)
  have HIN : Hid (decide ((0 : Int) ≤ e0 ∧ e0 ≤ 1000000) = true) := Lib.hid (by simp; omega)
  clear hs hs2 hl hm
  obtain ⟨E, hE⟩ : ∃ E, e0.toNat = E := ⟨_, rfl⟩
  rw [hE] at HU HST ⊢
  have HEE := Lib.hid hE
  clear hE
  have HD1 := Lib.hid (ldiv_c f (some ⟨w.heap.size, 0, none⟩) a2 [1] m 1 cap2 (w.alloc (.cells #[.int .i64 1] 3)) h0 h8 (by show 1 ≤ 4096; omega) (by omega) hz (pol_one h0 h8) HPM.out (src_one1 w) (HS2.out.keep (BA.out _)))
  go_enter Tryd.func24, Tryd.ntmps24
  go_wp2_with fail
  refine R1.mono ?_
  rintro e w' ⟨rfl, rfl⟩
  go_wp2_with fail
  refine R2.mono ?_
  rintro e w' ⟨rfl, rfl⟩
  go_wp2_with fail
  refine (in_c e0 0 1000000 w).mono ?_
  rintro e w' ⟨rfl, rfl⟩
  rw [HIN.out]
  go_wp2_with fail
  refine HD1.out.mono ?_
  rintro e w2 ⟨aq2, cq2, ar2, cr2, q2, r2, rfl, hdiv2, _, hsr2, hb2⟩
  have hb2' := below_up (BA.out _) hb2 (by simp)
  have HD2 := Lib.hid (ldiv_c f a a2 l m cap cap2 w2 h0 h8 (by omega) (by omega) hz HPL.out HPM.out (HS.out.keep hb2') (HS2.out.keep hb2'))
  have HO2 := Lib.hid hsr2
  have HV2 := Lib.hid hdiv2
  clear hsr2 HD1 hdiv2 R1 R2
  go_wp2_with fail
  refine HD2.out.mono ?_
  rintro e w3 ⟨aq3, cq3, ar3, cr3, q3, r3, rfl, hdiv3, _, hsr3, hb3⟩
  have HB3 := Lib.hid (below_up hb2' hb3 hb2'.size)
  have HO3 := Lib.hid (HO2.out.keep hb3)
  have HS3 := Lib.hid hsr3
  have HAT := Lib.hid (HST.out _ _ _ _ HV2.out hdiv3)
  clear hsr3 HO2 HD2 hb2 hb2' hb3 HV2 hdiv3 HST
  go_wp2_with fail
  go_loopw [11, 13, 14] (fun vr vs ve wr => ∃ (k : Int) (r s : List Int) (ra : Option Addr) (cr : Nat) (sa : Option Addr) (cs : Nat), ve = .int .i64 k ∧ vr = .slice ra r.length cr ∧ vs = .slice sa s.length cs ∧ Src wr ra r.length (lf r) ∧ Src wr sa s.length (lf s) ∧ 0 ≤ k ∧ k ≤ 1000000 ∧ PowAt f m (lf l) E k.toNat r s ∧ Below w.heap.size w wr) (fun _ _ ve _ => (intOf ve).toNat)
  case atStart => exact ⟨e0, _, _, _, _, _, _, rfl, rfl, rfl, HO3.out, HS3.out, he0, he1, by rw [HEE.out]; exact HAT.out, HB3.out⟩
  case round =>
    clear HO3 HS3 HAT HB3
    obtain ⟨k, r, s, ra, cr, sa, cs, rfl, rfl, rfl, hsr, hss, k0, k1, hat, hb⟩ := hrel
    have pr := hat.1.1
    have lr := hat.1.2
    have ps := hat.2.1.1
    have ls := hat.2.1.2
    by_cases hk : 0 < k
    · by_cases h2 : k % 2 = 1
      · have LM2 : (mulL f s s).length ≤ 4096 := by have := mulL_le f s s; omega
        have HPM2 : Hid (Pol f (mulL f s s)) := Lib.hid (pol_mulL h0 h8 s s)
        have LM1 : (mulL f r s).length ≤ 4096 := by have := mulL_le f r s; omega
        have HPM1 : Hid (Pol f (mulL f r s)) := Lib.hid (pol_mulL h0 h8 r s)
        have HM1 := Lib.hid (lmul_c f ra sa r s cr cs wr h0 h8 (by omega) (by omega) pr ps hsr hss)
        have HN : Hid (∀ q1 r1 q2 r2, DivP f (mulL f r s) m q1 r1 → DivP f (mulL f s s) m q2 r2 → PowAt f m (lf l) E (k / 2).toNat r1 r2) := Lib.hid (fun q1 r1 q2 r2 d1 d2 => by rw [show (k / 2).toNat = k.toNat / 2 by omega]; exact hat.odd (by omega) d1.isRem d2.isRem)
        have e2 : (k % 2 == 1) = true := by simp [h2]
        have HSS := Lib.hid hss
        have HPS := Lib.hid ps
        clear h2 hat hsr hss pr ps
        go_wp2_with fail
        refine HM1.out.mono ?_
        rintro e w3 ho3
        obtain ⟨a3, c3, rfl, hs3, hb3⟩ := ho3.list
        have hb3' := below_up hb hb3 hb.size
        have HD1 := Lib.hid (ldiv_c f a3 a2 (mulL f r s) m c3 cap2 w3 h0 h8 LM1 (by omega) hz HPM1.out HPM.out hs3 (HS2.out.keep hb3'))
        clear ho3 hs3 HM1
        go_wp2_with fail
        refine HD1.out.mono ?_
        rintro e w4 ⟨aq4, cq4, ar4, cr4, q4, r4, rfl, hdiv4, _, hsr4, hb4⟩
        have hb4' := below_up hb3' hb4 hb3'.size
        have hs4 := HSS.out.keep (below_up hb3 hb4 hb3.size)
        have HM2 := Lib.hid (lmul_c f sa sa s s cs cs w4 h0 h8 (by omega) (by omega) HPS.out HPS.out hs4 hs4)
        have HO4 := Lib.hid hsr4
        have HD4 := Lib.hid hdiv4
        clear hsr4 HD1 hs4 hdiv4
        go_wp2_with fail
        refine HM2.out.mono ?_
        rintro e w5 ho5
        obtain ⟨a5, c5, rfl, hs5, hb5⟩ := ho5.list
        have hb5' := below_up hb4' hb5 hb4'.size
        have HD2 := Lib.hid (ldiv_c f a5 a2 (mulL f s s) m c5 cap2 w5 h0 h8 LM2 (by omega) hz HPM2.out HPM.out hs5 (HS2.out.keep hb5'))
        have HO5 := Lib.hid (HO4.out.keep hb5)
        clear ho5 hs5 HM2 HO4
        go_wp2_with fail
        refine HD2.out.mono ?_
        rintro e w6 ⟨aq6, cq6, ar6, cr6, q6, r6, rfl, hdiv6, _, hsr6, hb6⟩
        have HB6 := Lib.hid (below_up hb5' hb6 hb5'.size)
        have HS6 := Lib.hid hsr6
        have HO6 := Lib.hid (HO5.out.keep hb6)
        have HNN := Lib.hid (HN.out _ _ _ _ HD4.out hdiv6)
        clear hsr6 HD2 HO5 hdiv6 HD4 HN
        go_wp2
        go_roundw
        case rel => exact ⟨k / 2, _, _, _, _, _, _, rfl, rfl, rfl, HO6.out, HS6.out, by omega, by omega, HNN.out, HB6.out⟩
        case measure => simp [intOf] <;> omega
      · have LM2 : (mulL f s s).length ≤ 4096 := by have := mulL_le f s s; omega
        have HPM2 : Hid (Pol f (mulL f s s)) := Lib.hid (pol_mulL h0 h8 s s)
        have HN : Hid (∀ q2 r2, DivP f (mulL f s s) m q2 r2 → PowAt f m (lf l) E (k / 2).toNat r r2) := Lib.hid (fun q2 r2 d2 => by rw [show (k / 2).toNat = k.toNat / 2 by omega]; exact hat.even (by omega) d2.isRem)
        have e2 : (k % 2 == 1) = false := by simp [h2]
        have HM2 := Lib.hid (lmul_c f sa sa s s cs cs wr h0 h8 (by omega) (by omega) ps ps hss hss)
        have HOR := Lib.hid hsr
        clear h2 hat hsr hss pr ps
        go_wp2_with fail
        refine HM2.out.mono ?_
        rintro e w5 ho5
        obtain ⟨a5, c5, rfl, hs5, hb5⟩ := ho5.list
        have hb5' := below_up hb hb5 hb.size
        have HD2 := Lib.hid (ldiv_c f a5 a2 (mulL f s s) m c5 cap2 w5 h0 h8 LM2 (by omega) hz HPM2.out HPM.out hs5 (HS2.out.keep hb5'))
        have HO5 := Lib.hid (HOR.out.keep hb5)
        clear ho5 hs5 HM2 HOR
        go_wp2_with fail
        refine HD2.out.mono ?_
        rintro e w6 ⟨aq6, cq6, ar6, cr6, q6, r6, rfl, hdiv6, _, hsr6, hb6⟩
        have HB6 := Lib.hid (below_up hb5' hb6 hb5'.size)
        have HS6 := Lib.hid hsr6
        have HO6 := Lib.hid (HO5.out.keep hb6)
        have HNN := Lib.hid (HN.out _ _ hdiv6)
        clear hsr6 HD2 HO5 hdiv6 HN
        go_wp2
        go_roundw
        case rel => exact ⟨k / 2, _, _, _, _, _, _, rfl, rfl, rfl, HO6.out, HS6.out, by omega, by omega, HNN.out, HB6.out⟩
        case measure => simp [intOf] <;> omega
    · obtain rfl : k = 0 := by omega
      have HE : Hid (powL f l E m = r) := Lib.hid (HU.out r s hat)
      have HO := Lib.hid hsr
      clear hat hsr hss pr ps
      go_wp2
      go_ret2
      rw [HE.out]
      exact ⟨ra, cr, rfl, HO.out, hb⟩
set_option maxRecDepth 100000 in
theorem sPowMod (f : Int) (a : Option Addr) (l : List Int) (cap : Nat) (e0 : Int) (a2 : Option Addr) (m : List Int) (cap2 : Nat) (w : World) (hn : l.length ≤ 1048576) (hn2 : m.length ≤ 1048576) (hs : Src w a l.length (lf l)) (hs2 : Src w a2 m.length (lf m)) :
    Calls Tryd.prog 24 #[.int .i64 f, .slice a l.length cap, .int .i64 e0, .slice a2 m.length cap2] w (ListLB w (mPowMod0 f l e0 m) (mPowMod1 f l e0 m)) := by
  by_cases hok : okPow f l e0 m
  · rw [(powm_on hok).1, (powm_on hok).2]
    exact sPow_on f a l cap e0 a2 m cap2 w hn hn2 hs hs2 hok
  · have R1 := sPolyOk f a l cap w hn hs
    have R2 := sPolyOk f a2 m cap2 w hn2 hs2
    rw [(powm_off hok).1, (powm_off hok).2]
    by_cases h1 : PolOk f l
    · rw [pok_iff.2 h1] at R1
      by_cases h2 : PolOk f m
      · rw [pok_iff.2 h2] at R2
        by_cases hz : m.length = 0
        · have HM : Hid (m = []) := Lib.hid (List.eq_nil_of_length_eq_zero hz)
          have ez : ((m.length : Int) == 0) = true := by simp [HM.out]
          clear hs hs2 h1 h2 hok hz
          go_enter Tryd.func24, Tryd.ntmps24
          go_wp2_with fail
          refine R1.mono ?_
          rintro e w' ⟨rfl, rfl⟩
          go_wp2_with fail
          refine R2.mono ?_
          rintro e w' ⟨rfl, rfl⟩
          go_wp2
          go_ret2
          exact ⟨none, 0, rfl, .inl rfl, Below.refl _ _⟩
        · have ez : ((m.length : Int) == 0) = false := by simp; intro h; exact hz (by rw [h]; rfl)
          have HIN : Hid (decide ((0 : Int) ≤ e0 ∧ e0 ≤ 1000000) = false) := Lib.hid (decide_eq_false fun h => hok ⟨h1, h2, hz, h.1, h.2⟩)
          clear hs hs2 h1 h2 hok
          go_enter Tryd.func24, Tryd.ntmps24
          go_wp2_with fail
          refine R1.mono ?_
          rintro e w' ⟨rfl, rfl⟩
          go_wp2_with fail
          refine R2.mono ?_
          rintro e w' ⟨rfl, rfl⟩
          go_wp2_with fail
          refine (in_c e0 0 1000000 w).mono ?_
          rintro e w' ⟨rfl, rfl⟩
          rw [HIN.out]
          go_wp2
          go_ret2
          exact ⟨none, 0, rfl, .inl rfl, Below.refl _ _⟩
      · rw [pok_not.2 h2] at R2
        clear hs hs2 h1 h2 hok
        go_enter Tryd.func24, Tryd.ntmps24
        go_wp2_with fail
        refine R1.mono ?_
        rintro e w' ⟨rfl, rfl⟩
        go_wp2_with fail
        refine R2.mono ?_
        rintro e w' ⟨rfl, rfl⟩
        go_wp2
        go_ret2
        exact ⟨none, 0, rfl, .inl rfl, Below.refl _ _⟩
    · rw [pok_not.2 h1] at R1
      clear hs hs2 h1 hok
      go_enter Tryd.func24, Tryd.ntmps24
      go_wp2_with fail
      refine R1.mono ?_
      rintro e w' ⟨rfl, rfl⟩
      go_wp2
      go_ret2
      exact ⟨none, 0, rfl, .inl rfl, Below.refl _ _⟩
end Go.Proofs.YthmbgiidfngmdabDoor
