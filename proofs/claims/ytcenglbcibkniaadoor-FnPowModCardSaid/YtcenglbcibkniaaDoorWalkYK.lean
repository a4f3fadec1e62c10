/-
  DivMod, GcdPoly, SquareFree: the program's and the specification's.
-/
import Derived.Test.YtcenglbcibkniaaDoorWalkYJ
import Derived.Test.YtcenglbcibkniaaDoorWalkYH
namespace Go.Proofs.YtcenglbcibkniaaDoor
open Go.RowKit
theorem divm_on {f : Int} {l m q r : List Int} (h : okDiv f l m) (hd : DivP f l m q r) : mDivMod0 f l m = q ∧ mDivMod1 f l m = r ∧ mDivMod2 f l m = true := by
  unfold mDivMod0 mDivMod1 mDivMod2
  rw [if_pos h, if_pos h]
  exact ⟨quoL_eq h.1.1.1 h.1.1.2 h.2.1.2.2 hd, remL_eq h.1.1.1 h.1.1.2 h.2.1.2.2 hd.isRem, by simp [h]⟩
theorem divm_off {f : Int} {l m : List Int} (h : ¬ okDiv f l m) : mDivMod0 f l m = [] ∧ mDivMod1 f l m = [] ∧ mDivMod2 f l m = false := by
  unfold mDivMod0 mDivMod1 mDivMod2
  rw [if_neg h, if_neg h]
  exact ⟨rfl, rfl, by simp [h]⟩
def NilD (w : World) (e : Ending) (w' : World) : Prop := e = .returned (.tuple #[.slice none 0 0, .slice none 0 0, .bool false]) ∧ Below w.heap.size w w'
set_option maxRecDepth 100000 in
set_option maxHeartbeats 1600000 in
theorem iDivMod_on (f : Int) (a : Option Addr) (l : List Int) (cap : Nat) (a2 : Option Addr) (m : List Int) (cap2 : Nat) (w : World) (hn : l.length ≤ 1048576) (hn2 : m.length ≤ 1048576) (hs : Src w a l.length (lf l)) (hs2 : Src w a2 m.length (lf m)) (ht : Tab w) (hl : PolOk f l) (hm : PolOk f m) (hz : m.length ≠ 0) :
    Calls Tryd.prog 10 #[.int .i64 f, .slice a l.length cap, .slice a2 m.length cap2] w (OwnLLB w (mDivMod0 f l m) (mDivMod1 f l m) (mDivMod2 f l m)) := by
  have HS := Lib.hid hs
  have HS2 := Lib.hid hs2
  have BA : Hid (∀ o, Below w.heap.size w (w.alloc o)) := Lib.hid fun o => (Below.refl _ _).alloc (Nat.le_refl _) o
  clear hs hs2
  have HB : Hid ((mPolyOk f l && mPolyOk f m) = true) := Lib.hid (by rw [pok_iff.2 hl, pok_iff.2 hm]; rfl)
  have h0 := hl.1.1
  have h8 := hl.1.2
  have HL := Lib.hid hl
  have HM := Lib.hid hm
  clear hl hm
  have l4 := HL.out.2.1
  have m4 := HM.out.2.1
  have ez : ((m.length : Int) == 0) = false := by simp; intro h; exact hz (by rw [h]; rfl)
  go_enter Tryd.func10, Tryd.ntmps10
  go_wp2_with fail
  refine (arePolys_c f w.heap.size a a2 l m cap cap2 _ hn hn2 (HS.out.keep (BA.out _)) (HS2.out.keep (BA.out _)) (ht.below (BA.out _)) (cell_two _ _ _ _).1 (cell_two _ _ _ _).2).mono ?_
  rintro e w' ⟨rfl, rfl⟩
  rw [HB.out]
  go_wp2_with fail
  refine (divide_c f a a2 l m cap cap2 _ (ht.below (BA.out _)) h0 h8 (by omega) (by omega) hz HL.out.2.2 HM.out.2.2 (HS.out.keep (BA.out _)) (HS2.out.keep (BA.out _))).mono ?_
  rintro e w2 ⟨gq, gr, q, r, rfl, hdiv, h1, h2, h3, h4, hb⟩
  have hb' := below_up (BA.out _) hb (by simp)
  rw [World.size_alloc] at h1
  have HE := Lib.hid (divm_on ⟨HL.out, HM.out, hz⟩ hdiv)
  have HQ := Lib.hid h3
  have HR := Lib.hid h4
  clear h3 h4 hdiv hb
  go_wp2
  go_ret3
  rw [HE.out.1, HE.out.2.1]
  exact ⟨some ⟨gq, 0, none⟩, q.length, some ⟨gr, 0, none⟩, r.length, gr, by rw [HE.out.2.2]; rfl, .inr ⟨gq, rfl, rfl, by omega, HQ.out⟩, (fun x hx => by cases hx; exact h2), by omega, .inr ⟨gr, rfl, rfl, Nat.le_refl _, HR.out⟩, hb'⟩
set_option maxRecDepth 100000 in
theorem iDivMod_off (f : Int) (a : Option Addr) (l : List Int) (cap : Nat) (a2 : Option Addr) (m : List Int) (cap2 : Nat) (w : World) (hn : l.length ≤ 1048576) (hn2 : m.length ≤ 1048576) (hs : Src w a l.length (lf l)) (hs2 : Src w a2 m.length (lf m)) (ht : Tab w) (hk : ¬ okDiv f l m) :
    Calls Tryd.prog 10 #[.int .i64 f, .slice a l.length cap, .slice a2 m.length cap2] w (NilD w) := by
  have HS := Lib.hid hs
  have HS2 := Lib.hid hs2
  have BA : Hid (∀ o, Below w.heap.size w (w.alloc o)) := Lib.hid fun o => (Below.refl _ _).alloc (Nat.le_refl _) o
  clear hs hs2
  by_cases hp : PolOk f l ∧ PolOk f m
  · have HB : Hid ((mPolyOk f l && mPolyOk f m) = true) := Lib.hid (by rw [pok_iff.2 hp.1, pok_iff.2 hp.2]; rfl)
    have hz : m.length = 0 := Decidable.byContradiction fun h => hk ⟨hp.1, hp.2, h⟩
    clear hk hp
    have HM : Hid (m = []) := Lib.hid (List.eq_nil_of_length_eq_zero hz)
    have ez : ((m.length : Int) == 0) = true := by simp [HM.out]
    clear hz
    go_enter Tryd.func10, Tryd.ntmps10
    go_wp2_with fail
    refine (arePolys_c f w.heap.size a a2 l m cap cap2 _ hn hn2 (HS.out.keep (BA.out _)) (HS2.out.keep (BA.out _)) (ht.below (BA.out _)) (cell_two _ _ _ _).1 (cell_two _ _ _ _).2).mono ?_
    rintro e w' ⟨rfl, rfl⟩
    rw [HB.out]
    go_wp2
    go_ret3
    exact ⟨rfl, BA.out _⟩
  · have HB : Hid ((mPolyOk f l && mPolyOk f m) = false) := Lib.hid (by
      by_cases h1 : PolOk f l
      · rw [pok_not.2 fun h => hp ⟨h1, h⟩, Bool.and_false]
      · rw [pok_not.2 h1, Bool.false_and])
    clear hk hp
    go_enter Tryd.func10, Tryd.ntmps10
    go_wp2_with fail
    refine (arePolys_c f w.heap.size a a2 l m cap cap2 _ hn hn2 (HS.out.keep (BA.out _)) (HS2.out.keep (BA.out _)) (ht.below (BA.out _)) (cell_two _ _ _ _).1 (cell_two _ _ _ _).2).mono ?_
    rintro e w' ⟨rfl, rfl⟩
    rw [HB.out]
    go_wp2
    go_ret3
    exact ⟨rfl, BA.out _⟩
theorem iDivMod (f : Int) (a : Option Addr) (l : List Int) (cap : Nat) (a2 : Option Addr) (m : List Int) (cap2 : Nat) (w : World) (hn : l.length ≤ 1048576) (hn2 : m.length ≤ 1048576) (hs : Src w a l.length (lf l)) (hs2 : Src w a2 m.length (lf m)) (ht : Tab w) :
    Calls Tryd.prog 10 #[.int .i64 f, .slice a l.length cap, .slice a2 m.length cap2] w (OwnLLB w (mDivMod0 f l m) (mDivMod1 f l m) (mDivMod2 f l m)) := by
  by_cases hk : okDiv f l m
  · exact iDivMod_on f a l cap a2 m cap2 w hn hn2 hs hs2 ht hk.1 hk.2.1 hk.2.2
  · refine (iDivMod_off f a l cap a2 m cap2 w hn hn2 hs hs2 ht hk).mono fun e w' h => ?_
    obtain ⟨rfl, hb⟩ := h
    rw [(divm_off hk).1, (divm_off hk).2.1, (divm_off hk).2.2]
    exact ⟨none, 0, none, 0, w.heap.size, rfl, OwnA.nil rfl, (fun x hx => by cases hx), Nat.le_refl _, OwnA.nil rfl, hb⟩
def lenOf : Value → Nat
  | .slice _ n _ => n
  | _ => 0
/-- The state of Euclid's loop. -/
def GcdAt (f : Int) (l m : List Int) (N : Nat) (w : World) (va vb : Value) (wr : World) : Prop := ∃ (x y : List Int) (ax ay : Option Addr) (cx cy : Nat), va = .slice ax x.length cx ∧ vb = .slice ay y.length cy ∧ Src wr ax x.length (lf x) ∧ Src wr ay y.length (lf y) ∧ Pol f x ∧ Pol f y ∧ x.length ≤ N ∧ y.length ≤ N ∧ gcdL f x y = gcdL f l m ∧ Below w.heap.size w wr
theorem src_top {w : World} {a : Option Addr} {k : Nat} {F : Nat → Int} (h : Src w a (k + 1) F) : ∃ b off, a = some ⟨b, off, none⟩ ∧ w.cell? ⟨b, off + k, none⟩ = some (.int .i64 (F k)) := by
  rcases h with h | ⟨b, off, rfl, _, hc⟩
  · omega
  · exact ⟨b, off, rfl, hc k (by omega)⟩
set_option maxRecDepth 100000 in
set_option maxHeartbeats 1600000 in
theorem gcd_c (f : Int) (a a2 : Option Addr) (l m : List Int) (cap cap2 : Nat) (w : World) (ht : Tab w) (h0 : 0 ≤ f) (h8 : f ≤ 8) (hn : l.length ≤ 4096) (hn2 : m.length ≤ 4096) (hl : Pol f l) (hm : Pol f m) (hs : Src w a l.length (lf l)) (hs2 : Src w a2 m.length (lf m)) :
    Calls Tryd.prog 35 #[.int .i64 f, .slice a l.length cap, .slice a2 m.length cap2] w (OwnG w (gcdM f l m)) := by
  have hp := P_bd h0 h8
  have HST : Hid (GcdAt f l m 4096 w (.slice a l.length cap) (.slice a2 m.length cap2) w) := Lib.hid ⟨l, m, a, a2, cap, cap2, rfl, rfl, hs, hs2, hl, hm, hn, hn2, rfl, Below.refl _ _⟩
  clear hs hs2 hl hm
  go_enter Tryd.func35, Tryd.ntmps35
  go_wp2_with fail
  go_loopw [1, 2] (fun va vb wr => GcdAt f l m 4096 w va vb wr) (fun _ vb _ => lenOf vb)
  case atStart => exact HST.out
  case round =>
    clear HST
    obtain ⟨x, y, ax, ay, cx, cy, rfl, rfl, hsx, hsy, px, py, lx, ly, hg, hb⟩ := hrel
    by_cases hy : 0 < y.length
    · have hyz : y.length ≠ 0 := by omega
      have HR := Lib.hid (remainder_c f ax ay x y cx cy wr (ht.below hb) h0 h8 lx ly hyz px py hsx hsy)
      have HK : Hid (∀ (w2 : World) (g : Nat), Own w2 g (remL f x y).length (lf (remL f x y)) → Below wr.heap.size wr w2 → GcdAt f l m 4096 w (.slice ay y.length cy) (.slice (some ⟨g, 0, none⟩) (remL f x y).length (remL f x y).length) w2) := Lib.hid fun w2 g ho hb2 => by
        have hrl := remL_len (f := f) (a := x) hyz
        exact ⟨y, remL f x y, ay, _, cy, _, rfl, rfl, hsy.keep hb2, ho.src, py, (remL_is h0 h8 px py hyz).1, ly, by omega, by rw [← gcdL_step f x y hyz]; exact hg, below_up hb hb2 hb.size⟩
      have HL := Lib.hid (remL_len (f := f) (a := x) hyz)
      clear hsx hsy px py hg
      go_wp2_with fail
      refine HR.out.mono ?_
      rintro e w2 ⟨g, rfl, hgg, ho, hb2⟩
      have HG := Lib.hid (HK.out w2 g ho hb2)
      clear ho HK HR
      go_wp2
      go_roundw
      case rel => exact HG.out
      case measure => simp only [lenOf]; exact HL.out
    · have hyz : y.length = 0 := by omega
      have HY : Hid (y = []) := Lib.hid (List.eq_nil_of_length_eq_zero hyz)
      have hd : decide ((0 : Int) < y.length) = false := decide_eq_false (by omega)
      have HX : Hid (gcdM f l m = monL f x) := Lib.hid (by unfold gcdM; rw [← hg, gcdL_nil f x y hyz])
      by_cases hx : x.length = 0
      · have HE : Hid (monL f x = []) := Lib.hid (by unfold monL; rw [if_pos hx])
        have HP := Lib.hid (poly_none none 0 (fun _ => 0) wr)
        clear hsx hsy px py hg
        go_wp2_with fail
        refine HP.out.mono ?_
        rw [show cutL 0 (fun _ => 0) = [] from rfl]
        rintro e w2 ho
        obtain ⟨g, rfl, hgg, hO, hB⟩ := ho.up hb
        have HO := Lib.hid hO
        clear hO ho HP
        go_wp2
        go_ret
        rw [HX.out, HE.out]
        exact ⟨g, rfl, hgg, HO.out, hB⟩
      · obtain ⟨k, hk⟩ : ∃ k, x.length = k + 1 := ⟨x.length - 1, by omega⟩
        have bx := px.1 k
        have bz : lf x k ≠ 0 := by
          rcases px.2 with h | h
          · omega
          · rw [hk] at h; exact h
        have HE : Hid (monL f x = scaleL f x (PW (P f) (lf x k) (P f - 2))) := Lib.hid (by unfold monL; rw [if_neg hx, hk, show k + 1 - 1 = k by omega, inverse_inv h0 h8 (by omega) bx.2])
        have BI := PW_bd (m := P f) (x := lf x k) (e := P f - 2) (by omega)
        have HSC := Lib.hid (scaled_c f (PW (P f) (lf x k) (P f - 2)) ax x cx wr (ht.below hb) h0 h8 (by omega) BI.1 BI.2 px hsx)
        rw [hk] at hsx
        obtain ⟨b, off, rfl, hcell⟩ := src_top hsx
        rw [hk] at HSC ⊢
        have hk4 : k + 1 ≤ 4096 := by omega
        clear hsx hsy px py hg hx bz hk lx
        go_wp2_with fail
        refine (inverse_c f (lf x k) wr (ht.below hb) h0 h8 bx.1 bx.2).mono ?_
        rintro e w' ⟨rfl, rfl⟩
        go_wp2_with fail
        refine HSC.out.mono ?_
        rintro e w2 ho
        obtain ⟨g, rfl, hgg, hO, hB⟩ := ho.up hb
        have HO := Lib.hid hO
        clear hO ho HSC
        go_wp2
        go_ret
        rw [HX.out, HE.out]
        exact ⟨g, rfl, hgg, HO.out, hB⟩
set_option maxRecDepth 100000 in
set_option maxHeartbeats 1600000 in
theorem iGcdPoly_on (f : Int) (a : Option Addr) (l : List Int) (cap : Nat) (a2 : Option Addr) (m : List Int) (cap2 : Nat) (w : World) (hn : l.length ≤ 1048576) (hn2 : m.length ≤ 1048576) (hs : Src w a l.length (lf l)) (hs2 : Src w a2 m.length (lf m)) (ht : Tab w) (hl : PolOk f l) (hm : PolOk f m) :
    Calls Tryd.prog 16 #[.int .i64 f, .slice a l.length cap, .slice a2 m.length cap2] w (OwnL w (gcdM f l m)) := by
  have HS := Lib.hid hs
  have HS2 := Lib.hid hs2
  have BA : Hid (∀ o, Below w.heap.size w (w.alloc o)) := Lib.hid fun o => (Below.refl _ _).alloc (Nat.le_refl _) o
  clear hs hs2
  have HB : Hid ((mPolyOk f l && mPolyOk f m) = true) := Lib.hid (by rw [pok_iff.2 hl, pok_iff.2 hm]; rfl)
  have h0 := hl.1.1
  have h8 := hl.1.2
  have HL := Lib.hid hl
  have HM := Lib.hid hm
  clear hl hm
  have l4 := HL.out.2.1
  have m4 := HM.out.2.1
  go_enter Tryd.func16, Tryd.ntmps16
  go_wp2_with fail
  refine (arePolys_c f w.heap.size a a2 l m cap cap2 _ hn hn2 (HS.out.keep (BA.out _)) (HS2.out.keep (BA.out _)) (ht.below (BA.out _)) (cell_two _ _ _ _).1 (cell_two _ _ _ _).2).mono ?_
  rintro e w' ⟨rfl, rfl⟩
  rw [HB.out]
  go_wp2_with fail
  refine (gcd_c f a a2 l m cap cap2 _ (ht.below (BA.out _)) h0 h8 (by omega) (by omega) HL.out.2.2 HM.out.2.2 (HS.out.keep (BA.out _)) (HS2.out.keep (BA.out _))).mono ?_
  rintro e w2 ho
  obtain ⟨g, rfl, hg, hO, hB⟩ := ho.up (BA.out _)
  have HO := Lib.hid hO
  clear hO ho
  go_wp2
  go_ret
  exact OwnG.finish hg HO.out hB
theorem iGcdPoly_off (f : Int) (a : Option Addr) (l : List Int) (cap : Nat) (a2 : Option Addr) (m : List Int) (cap2 : Nat) (w : World) (hn : l.length ≤ 1048576) (hn2 : m.length ≤ 1048576) (hs : Src w a l.length (lf l)) (hs2 : Src w a2 m.length (lf m)) (ht : Tab w) (hk : ¬ (PolOk f l ∧ PolOk f m)) :
    Calls Tryd.prog 16 #[.int .i64 f, .slice a l.length cap, .slice a2 m.length cap2] w (NilP w) := by
  have HS := Lib.hid hs
  have HS2 := Lib.hid hs2
  have BA : Hid (∀ o, Below w.heap.size w (w.alloc o)) := Lib.hid fun o => (Below.refl _ _).alloc (Nat.le_refl _) o
  clear hs hs2
  have HB : Hid ((mPolyOk f l && mPolyOk f m) = false) := Lib.hid (by
    by_cases h1 : PolOk f l
    · rw [pok_not.2 fun h => hk ⟨h1, h⟩, Bool.and_false]
    · rw [pok_not.2 h1, Bool.false_and])
  clear hk
  go_enter Tryd.func16, Tryd.ntmps16
  go_wp2_with fail
  refine (arePolys_c f w.heap.size a a2 l m cap cap2 _ hn hn2 (HS.out.keep (BA.out _)) (HS2.out.keep (BA.out _)) (ht.below (BA.out _)) (cell_two _ _ _ _).1 (cell_two _ _ _ _).2).mono ?_
  rintro e w' ⟨rfl, rfl⟩
  rw [HB.out]
  go_wp2
  go_ret
  exact ⟨rfl, BA.out _⟩
theorem iGcdPoly (f : Int) (a : Option Addr) (l : List Int) (cap : Nat) (a2 : Option Addr) (m : List Int) (cap2 : Nat) (w : World) (hn : l.length ≤ 1048576) (hn2 : m.length ≤ 1048576) (hs : Src w a l.length (lf l)) (hs2 : Src w a2 m.length (lf m)) (ht : Tab w) :
    Calls Tryd.prog 16 #[.int .i64 f, .slice a l.length cap, .slice a2 m.length cap2] w (OwnL w (mGcdPoly f l m)) := by
  by_cases hk : PolOk f l ∧ PolOk f m
  · rw [show mGcdPoly f l m = gcdM f l m by unfold mGcdPoly; rw [if_pos hk]]
    exact iGcdPoly_on f a l cap a2 m cap2 w hn hn2 hs hs2 ht hk.1 hk.2
  · exact (iGcdPoly_off f a l cap a2 m cap2 w hn hn2 hs hs2 ht hk).mono fun _ _ h => h.own (by unfold mGcdPoly; rw [if_neg hk])
set_option maxRecDepth 100000 in
set_option maxHeartbeats 1600000 in
theorem sGcd_on (f : Int) (a : Option Addr) (l : List Int) (cap : Nat) (a2 : Option Addr) (m : List Int) (cap2 : Nat) (w : World) (hn : l.length ≤ 1048576) (hn2 : m.length ≤ 1048576) (hs : Src w a l.length (lf l)) (hs2 : Src w a2 m.length (lf m)) (h1 : PolOk f l) (h2 : PolOk f m) :
    Calls Tryd.prog 20 #[.int .i64 f, .slice a l.length cap, .slice a2 m.length cap2] w (ListL w (gcdM f l m)) := by
  have R1 := sPolyOk f a l cap w hn hs
  have R2 := sPolyOk f a2 m cap2 w hn2 hs2
  rw [pok_iff.2 h1] at R1
  rw [pok_iff.2 h2] at R2
  obtain ⟨⟨h0, h8⟩, l4, pl⟩ := h1
  obtain ⟨_, m4, pm⟩ := h2
  have hp := P_bd h0 h8
  have HC1 := Lib.hid (copy_c a l.length cap (lf l) w (by omega) hs)
  have HS2 := Lib.hid hs2
  clear hs hs2
  go_enter Tryd.func20, Tryd.ntmps20
  go_wp2_with fail
  refine R1.mono ?_
  rintro e w' ⟨rfl, rfl⟩
  go_wp2_with fail
  refine R2.mono ?_
  rintro e w' ⟨rfl, rfl⟩
  go_wp2_with fail
  refine HC1.out.mono ?_
  rintro e w1 ⟨v1, rfl, ho1, hb1⟩
  obtain ⟨a3, cap3, rfl, _, hs3⟩ := src_of_owns2 ho1
  have HS3 := Lib.hid hs3
  have HC2 := Lib.hid (copy_c a2 m.length cap2 (lf m) w1 (by omega) (HS2.out.keep hb1))
  clear ho1 hs3 HC1 HS2 R1 R2
  go_wp2_with fail
  refine HC2.out.mono ?_
  rintro e w2 ⟨v2, rfl, ho2, hb2⟩
  obtain ⟨a4, cap4, rfl, _, hs4⟩ := src_of_owns2 ho2
  have HST : Hid (GcdAt f l m 400 w (.slice a3 l.length cap3) (.slice a4 m.length cap4) w2) := Lib.hid ⟨l, m, a3, a4, cap3, cap4, rfl, rfl, HS3.out.keep hb2, hs4, pl, pm, l4, m4, rfl, below_up hb1 hb2 hb1.size⟩
  clear ho2 hs4 HC2 HS3 pl pm hb1 hb2
  go_wp2_with fail
  go_loopw [7, 8, 9, 10] (fun va vb _ _ wr => GcdAt f l m 400 w va vb wr) (fun _ vb _ _ _ => lenOf vb)
  case atStart => exact HST.out
  case round =>
    clear HST
    obtain ⟨x, y, ax, ay, cx, cy, rfl, rfl, hsx, hsy, px, py, lx, ly, hg, hb⟩ := hrel
    by_cases hy : 0 < y.length
    · have hyz : y.length ≠ 0 := by omega
      have HR := Lib.hid (ldiv_c f ax ay x y cx cy wr h0 h8 (by omega) (by omega) hyz px py hsx hsy)
      have HK : Hid (∀ (w3 : World) (q r : List Int) (ar : Option Addr) (cr : Nat), DivP f x y q r → Src w3 ar r.length (lf r) → Below wr.heap.size wr w3 → GcdAt f l m 400 w (.slice ay y.length cy) (.slice ar r.length cr) w3 ∧ r.length < y.length) := Lib.hid fun w3 q r ar cr hd hsr hb3 => by
        have e := remL_eq h0 h8 py hd.isRem
        have hlr := hd.2.2.1
        exact ⟨⟨y, r, ay, ar, cy, cr, rfl, rfl, hsy.keep hb3, hsr, py, hd.2.1, ly, by omega, by rw [← e, ← gcdL_step f x y hyz]; exact hg, below_up hb hb3 hb.size⟩, hlr⟩
      clear hsx hsy px py hg
      go_wp2_with fail
      refine HR.out.mono ?_
      rintro e w3 ⟨aq, capq, ar, capr, q, r, rfl, hdiv, hsq, hsr, hb3⟩
      have HG := Lib.hid (HK.out w3 q r ar capr hdiv hsr hb3)
      clear hsq hsr hdiv HK HR
      go_wp2
      go_roundw
      case rel => exact HG.out.1
      case measure => simp only [lenOf]; exact HG.out.2
    · have hyz : y.length = 0 := by omega
      have hd : decide ((0 : Int) < y.length) = false := decide_eq_false (by omega)
      have HX : Hid (gcdM f l m = monL f x) := Lib.hid (by unfold gcdM; rw [← hg, gcdL_nil f x y hyz])
      by_cases hx : x.length = 0
      · have HE : Hid (monL f x = []) := Lib.hid (by unfold monL; rw [if_pos hx])
        clear hsx hsy px py hg
        go_wp2
        go_ret
        rw [HX.out, HE.out]
        exact ⟨none, 0, rfl, .inl rfl, hb⟩
      · obtain ⟨k, hk⟩ : ∃ k, x.length = k + 1 := ⟨x.length - 1, by omega⟩
        have bx := px.1 k
        have bz : lf x k ≠ 0 := by
          rcases px.2 with h | h
          · omega
          · rw [hk] at h; exact h
        have HE : Hid (monL f x = scaleL f x (mPower f (lf x k) (-1))) := Lib.hid (by
          unfold monL
          rw [if_neg hx, hk, show k + 1 - 1 = k by omega]
          unfold invF
          rw [if_neg (by rw [RS_self bx.1 bx.2]; exact bz)])
        have HSC := Lib.hid (sScale_on f (mPower f (lf x k) (-1)) ax x cx wr (by omega) hsx ⟨⟨h0, h8⟩, lx, px⟩)
        rw [hk] at hsx
        obtain ⟨b, off, rfl, hcell⟩ := src_top hsx
        rw [hk] at HSC ⊢
        have hk4 : k + 1 ≤ 400 := by omega
        clear hsx hsy px py hg hx bz hk lx
        go_wp2_with fail
        refine (sInverse f (lf x k) wr).mono ?_
        rintro e w' ⟨rfl, rfl⟩
        go_wp2_with fail
        refine HSC.out.mono ?_
        rintro e w3 ho
        obtain ⟨a5, cap5, rfl, hs5, hb5⟩ := ho.list
        have HS5 := Lib.hid hs5
        have HB5 := Lib.hid (below_up hb hb5 hb.size)
        clear ho hs5 HSC
        go_wp2
        go_ret
        rw [HX.out, HE.out]
        exact ⟨a5, cap5, rfl, HS5.out, HB5.out⟩
theorem sGcdPoly (f : Int) (a : Option Addr) (l : List Int) (cap : Nat) (a2 : Option Addr) (m : List Int) (cap2 : Nat) (w : World) (hn : l.length ≤ 1048576) (hn2 : m.length ≤ 1048576) (hs : Src w a l.length (lf l)) (hs2 : Src w a2 m.length (lf m)) :
    Calls Tryd.prog 20 #[.int .i64 f, .slice a l.length cap, .slice a2 m.length cap2] w (ListL w (mGcdPoly f l m)) := by
  by_cases h1 : PolOk f l
  · by_cases h2 : PolOk f m
    · rw [show mGcdPoly f l m = gcdM f l m by unfold mGcdPoly; rw [if_pos ⟨h1, h2⟩]]
      exact sGcd_on f a l cap a2 m cap2 w hn hn2 hs hs2 h1 h2
    · have R1 := sPolyOk f a l cap w hn hs
      have R2 := sPolyOk f a2 m cap2 w hn2 hs2
      rw [pok_iff.2 h1] at R1
      rw [pok_not.2 h2] at R2
      rw [show mGcdPoly f l m = [] by unfold mGcdPoly; rw [if_neg fun h => h2 h.2]]
      clear hs hs2 h1 h2
      go_enter Tryd.func20, Tryd.ntmps20
      go_wp2_with fail
      refine R1.mono ?_
      rintro e w' ⟨rfl, rfl⟩
      go_wp2_with fail
      refine R2.mono ?_
      rintro e w' ⟨rfl, rfl⟩
      go_wp2
      go_ret
      exact ⟨none, 0, rfl, .inl rfl, Below.refl _ _⟩
  · have R1 := sPolyOk f a l cap w hn hs
    rw [pok_not.2 h1] at R1
    rw [show mGcdPoly f l m = [] by unfold mGcdPoly; rw [if_neg fun h => h1 h.1]]
    clear hs hs2 h1
    go_enter Tryd.func20, Tryd.ntmps20
    go_wp2_with fail
    refine R1.mono ?_
    rintro e w' ⟨rfl, rfl⟩
    go_wp2
    go_ret
    exact ⟨none, 0, rfl, .inl rfl, Below.refl _ _⟩
theorem pok_der {f : Int} {l : List Int} (h : PolOk f l) : PolOk f (derL f l) := ⟨h.1, by have := derL_le f l; have := h.2.1; omega, pol_derL h.1.1 h.1.2 l⟩
theorem sq_on {f : Int} {l : List Int} (h : PolOk f l) : mSquareFree f l = (((gcdM f l (derL f l)).length : Int) == 1) := by
  unfold mSquareFree
  by_cases h1 : (gcdM f l (derL f l)).length = 1
  · simp [h, h1]
  · have : ¬ ((gcdM f l (derL f l)).length : Int) = 1 := by omega
    simp [h, h1, this]
end Go.Proofs.YtcenglbcibkniaaDoor
