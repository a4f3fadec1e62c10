/-
  Texts of the proofs of this seat, joined (part 2).
-/
import Derived.Test.YthmbgiidfngmdaaDoorJ1
namespace Go.Proofs.YthmbgiidfngmdaaDoor
open Go.RowKit
theorem OwnG.finish {w w' : World} {l : List Int} {g : Nat} (hg : w.heap.size ≤ g) (ho : Own w' g l.length (lf l)) (hb : Below w.heap.size w w') : OwnL w l (.returned (.slice (some ⟨g, 0, none⟩) l.length l.length)) w' := OwnG.own ⟨g, rfl, hg, ho, hb⟩
theorem iAddPoly_off (f : Int) (a : Option Addr) (l : List Int) (cap : Nat) (a2 : Option Addr) (m : List Int) (cap2 : Nat) (w : World) (hn : l.length ≤ 1048576) (hn2 : m.length ≤ 1048576) (hs : Src w a l.length (lf l)) (hs2 : Src w a2 m.length (lf m)) (ht : Tab w) (hk : ¬ (PolOk f l ∧ PolOk f m)) :
    Calls Tryd.prog 13 #[.int .i64 f, .slice a l.length cap, .slice a2 m.length cap2] w (NilP w) := by
  have HS := Lib.hid hs
  have HS2 := Lib.hid hs2
  have BA : Hid (∀ o, Below w.heap.size w (w.alloc o)) := Lib.hid fun o => (Below.refl _ _).alloc (Nat.le_refl _) o
  clear hs hs2
  have HB : Hid ((mPolyOk f l && mPolyOk f m) = false) := Lib.hid (by
    by_cases h1 : PolOk f l
    · rw [pok_not.2 fun h => hk ⟨h1, h⟩, Bool.and_false]
    · rw [pok_not.2 h1, Bool.false_and])
  clear hk
  go_enter Tryd.func13, Tryd.ntmps13
  go_wp2_with fail
  refine (arePolys_c f w.heap.size a a2 l m cap cap2 _ hn hn2 (HS.out.keep (BA.out _)) (HS2.out.keep (BA.out _)) (ht.below (BA.out _)) (cell_two _ _ _ _).1 (cell_two _ _ _ _).2).mono ?_
  rintro e w' ⟨rfl, rfl⟩
  rw [HB.out]
  go_wp2
  go_ret
  exact ⟨rfl, BA.out _⟩
set_option maxRecDepth 100000 in
set_option maxHeartbeats 1600000 in
theorem iAddPoly_on (f : Int) (a : Option Addr) (l : List Int) (cap : Nat) (a2 : Option Addr) (m : List Int) (cap2 : Nat) (w : World) (hn : l.length ≤ 1048576) (hn2 : m.length ≤ 1048576) (hs : Src w a l.length (lf l)) (hs2 : Src w a2 m.length (lf m)) (ht : Tab w) (hl : PolOk f l) (hm : PolOk f m) :
    Calls Tryd.prog 13 #[.int .i64 f, .slice a l.length cap, .slice a2 m.length cap2] w (OwnL w (addL f l m)) := by
  have HS := Lib.hid hs
  have HS2 := Lib.hid hs2
  have BA : Hid (∀ o, Below w.heap.size w (w.alloc o)) := Lib.hid fun o => (Below.refl _ _).alloc (Nat.le_refl _) o
  clear hs hs2
  have HB : Hid ((mPolyOk f l && mPolyOk f m) = true) := Lib.hid (by rw [pok_iff.2 hl, pok_iff.2 hm]; rfl)
  have h0 := hl.1.1
  have h8 := hl.1.2
  have HL := Lib.hid hl
  have HM := Lib.hid hm
  clear hl hm
  go_enter Tryd.func13, Tryd.ntmps13
  go_wp2_with fail
  refine (arePolys_c f w.heap.size a a2 l m cap cap2 _ hn hn2 (HS.out.keep (BA.out _)) (HS2.out.keep (BA.out _)) (ht.below (BA.out _)) (cell_two _ _ _ _).1 (cell_two _ _ _ _).2).mono ?_
  rintro e w' ⟨rfl, rfl⟩
  rw [HB.out]
  go_wp2_with fail
  refine (sum_c f a a2 l m cap cap2 _ (ht.below (BA.out _)) h0 h8 hn hn2 HL.out.2.2 HM.out.2.2 (HS.out.keep (BA.out _)) (HS2.out.keep (BA.out _))).mono ?_
  rintro e w2 ho
  obtain ⟨g, rfl, hg, hO, hB⟩ := ho.up (BA.out _)
  have HO := Lib.hid hO
  clear hO ho
  go_wp2
  go_ret
  exact OwnG.finish hg HO.out hB
theorem iAddPoly (f : Int) (a : Option Addr) (l : List Int) (cap : Nat) (a2 : Option Addr) (m : List Int) (cap2 : Nat) (w : World) (hn : l.length ≤ 1048576) (hn2 : m.length ≤ 1048576) (hs : Src w a l.length (lf l)) (hs2 : Src w a2 m.length (lf m)) (ht : Tab w) :
    Calls Tryd.prog 13 #[.int .i64 f, .slice a l.length cap, .slice a2 m.length cap2] w (OwnL w (mAddPoly f l m)) := by
  by_cases hk : PolOk f l ∧ PolOk f m
  · rw [show mAddPoly f l m = addL f l m by unfold mAddPoly; rw [if_pos hk]]
    exact iAddPoly_on f a l cap a2 m cap2 w hn hn2 hs hs2 ht hk.1 hk.2
  · exact (iAddPoly_off f a l cap a2 m cap2 w hn hn2 hs hs2 ht hk).mono fun _ _ h => h.own (by unfold mAddPoly; rw [if_neg hk])
theorem iSubPoly_off (f : Int) (a : Option Addr) (l : List Int) (cap : Nat) (a2 : Option Addr) (m : List Int) (cap2 : Nat) (w : World) (hn : l.length ≤ 1048576) (hn2 : m.length ≤ 1048576) (hs : Src w a l.length (lf l)) (hs2 : Src w a2 m.length (lf m)) (ht : Tab w) (hk : ¬ (PolOk f l ∧ PolOk f m)) :
    Calls Tryd.prog 28 #[.int .i64 f, .slice a l.length cap, .slice a2 m.length cap2] w (NilP w) := by
  have HS := Lib.hid hs
  have HS2 := Lib.hid hs2
  have BA : Hid (∀ o, Below w.heap.size w (w.alloc o)) := Lib.hid fun o => (Below.refl _ _).alloc (Nat.le_refl _) o
  clear hs hs2
  have HB : Hid ((mPolyOk f l && mPolyOk f m) = false) := Lib.hid (by
    by_cases h1 : PolOk f l
    · rw [pok_not.2 fun h => hk ⟨h1, h⟩, Bool.and_false]
    · rw [pok_not.2 h1, Bool.false_and])
  clear hk
  go_enter Tryd.func28, Tryd.ntmps28
  go_wp2_with fail
  refine (arePolys_c f w.heap.size a a2 l m cap cap2 _ hn hn2 (HS.out.keep (BA.out _)) (HS2.out.keep (BA.out _)) (ht.below (BA.out _)) (cell_two _ _ _ _).1 (cell_two _ _ _ _).2).mono ?_
  rintro e w' ⟨rfl, rfl⟩
  rw [HB.out]
  go_wp2
  go_ret
  exact ⟨rfl, BA.out _⟩
set_option maxRecDepth 100000 in
set_option maxHeartbeats 1600000 in
theorem iSubPoly_on (f : Int) (a : Option Addr) (l : List Int) (cap : Nat) (a2 : Option Addr) (m : List Int) (cap2 : Nat) (w : World) (hn : l.length ≤ 1048576) (hn2 : m.length ≤ 1048576) (hs : Src w a l.length (lf l)) (hs2 : Src w a2 m.length (lf m)) (ht : Tab w) (hl : PolOk f l) (hm : PolOk f m) :
    Calls Tryd.prog 28 #[.int .i64 f, .slice a l.length cap, .slice a2 m.length cap2] w (OwnL w (addL f l (scaleL f m (-1)))) := by
  have HS := Lib.hid hs
  have HS2 := Lib.hid hs2
  have BA : Hid (∀ o, Below w.heap.size w (w.alloc o)) := Lib.hid fun o => (Below.refl _ _).alloc (Nat.le_refl _) o
  clear hs hs2
  have HB : Hid ((mPolyOk f l && mPolyOk f m) = true) := Lib.hid (by rw [pok_iff.2 hl, pok_iff.2 hm]; rfl)
  have h0 := hl.1.1
  have h8 := hl.1.2
  have HL := Lib.hid hl
  have HM := Lib.hid hm
  clear hl hm
  have hp := P_bd h0 h8
  go_enter Tryd.func28, Tryd.ntmps28
  go_wp2_with fail
  refine (arePolys_c f w.heap.size a a2 l m cap cap2 _ hn hn2 (HS.out.keep (BA.out _)) (HS2.out.keep (BA.out _)) (ht.below (BA.out _)) (cell_two _ _ _ _).1 (cell_two _ _ _ _).2).mono ?_
  rintro e w' ⟨rfl, rfl⟩
  rw [HB.out]
  go_wp2_with fail
  refine (prime_c f _ (ht.below (BA.out _)) h0 h8).mono ?_
  rintro e w' ⟨rfl, rfl⟩
  go_wp2_with fail
  refine (scaled_c f (P f - 1) a2 m cap2 _ (ht.below (BA.out _)) h0 h8 hn2 (by omega) (by omega) HM.out.2.2 (HS2.out.keep (BA.out _))).mono ?_
  rw [scale_neg]
  rintro e w2 ho
  obtain ⟨g, rfl, hg, hO, hB⟩ := ho.up (BA.out _)
  have HO := Lib.hid hO
  have HP : Hid (Pol f (scaleL f m (-1))) := Lib.hid (pol_scaleL h0 h8 m (-1))
  have HN : Hid ((scaleL f m (-1)).length ≤ 1048576) := Lib.hid (Nat.le_trans (scaleL_le _ _ _) hn2)
  clear hO ho
  generalize scaleL f m (-1) = s at *
  go_wp2_with fail
  refine (sum_c f a (some ⟨g, 0, none⟩) l s cap s.length w2 (ht.below hB) h0 h8 hn HN.out HL.out.2.2 HP.out (HS.out.keep hB) HO.out.src).mono ?_
  rintro e w3 ho
  obtain ⟨g2, rfl, hg2, hO2, hB2⟩ := ho.up hB
  have HO2 := Lib.hid hO2
  clear hO2 ho
  go_wp2
  go_ret
  exact OwnG.finish hg2 HO2.out hB2
theorem iSubPoly (f : Int) (a : Option Addr) (l : List Int) (cap : Nat) (a2 : Option Addr) (m : List Int) (cap2 : Nat) (w : World) (hn : l.length ≤ 1048576) (hn2 : m.length ≤ 1048576) (hs : Src w a l.length (lf l)) (hs2 : Src w a2 m.length (lf m)) (ht : Tab w) :
    Calls Tryd.prog 28 #[.int .i64 f, .slice a l.length cap, .slice a2 m.length cap2] w (OwnL w (mSubPoly f l m)) := by
  by_cases hk : PolOk f l ∧ PolOk f m
  · rw [show mSubPoly f l m = addL f l (scaleL f m (-1)) by unfold mSubPoly; rw [if_pos hk]]
    exact iSubPoly_on f a l cap a2 m cap2 w hn hn2 hs hs2 ht hk.1 hk.2
  · exact (iSubPoly_off f a l cap a2 m cap2 w hn hn2 hs hs2 ht hk).mono fun _ _ h => h.own (by unfold mSubPoly; rw [if_neg hk])
set_option maxRecDepth 100000 in
set_option maxHeartbeats 1600000 in
theorem iScalePoly (f : Int) (a : Option Addr) (l : List Int) (cap : Nat) (c : Int) (w : World) (hn : l.length ≤ 1048576) (hs : Src w a l.length (lf l)) (ht : Tab w) :
    Calls Tryd.prog 24 #[.int .i64 f, .slice a l.length cap, .int .i64 c] w (OwnL w (mScalePoly f l c)) := by
  have R1 := iPolyOk f a l cap w hn hs ht
  have HS := Lib.hid hs
  clear hs
  by_cases hk : PolOk f l
  · rw [pok_iff.2 hk] at R1
    have h0 := hk.1.1
    have h8 := hk.1.2
    have HK := Lib.hid hk
    rw [show mScalePoly f l c = scaleL f l c by unfold mScalePoly; rw [if_pos hk]]
    have hp := P_bd h0 h8
    have cb := RS_bd (x := c) (m := P f) (by omega)
    have HE : Hid (scaleL f l (RS c (P f)) = scaleL f l c) := Lib.hid (by
      unfold scaleL
      exact cutL_congr fun j _ => by unfold RS; exact emod_mul_congr rfl (by simp))
    clear hk
    go_enter Tryd.func24, Tryd.ntmps24
    go_wp2_with fail
    refine R1.mono ?_
    rintro e w' ⟨rfl, rfl⟩
    go_wp2_with fail
    refine (reduce_c f c w ht h0 h8).mono ?_
    rintro e w' ⟨rfl, rfl⟩
    go_wp2_with fail
    refine (scaled_c f (RS c (P f)) a l cap w ht h0 h8 hn cb.1 cb.2 HK.out.2.2 HS.out).mono ?_
    rw [HE.out]
    rintro e w2 ⟨g, rfl, hg, hO, hB⟩
    have HO := Lib.hid hO
    clear hO
    go_wp2
    go_ret
    exact OwnG.finish hg HO.out hB
  · rw [pok_not.2 hk] at R1
    rw [show mScalePoly f l c = [] by unfold mScalePoly; rw [if_neg hk]]
    clear hk
    go_enter Tryd.func24, Tryd.ntmps24
    go_wp2_with fail
    refine R1.mono ?_
    rintro e w' ⟨rfl, rfl⟩
    go_wp2
    go_ret
    exact ⟨none, 0, rfl, OwnA.nil rfl, Below.refl _ _⟩
set_option maxRecDepth 100000 in
set_option maxHeartbeats 1600000 in
theorem iDerivative (f : Int) (a : Option Addr) (l : List Int) (cap : Nat) (w : World) (hn : l.length ≤ 1048576) (hs : Src w a l.length (lf l)) (ht : Tab w) :
    Calls Tryd.prog 20 #[.int .i64 f, .slice a l.length cap] w (OwnL w (mDerivative f l)) := by
  have R1 := iPolyOk f a l cap w hn hs ht
  have HS := Lib.hid hs
  clear hs
  by_cases hk : PolOk f l
  · rw [pok_iff.2 hk] at R1
    have h0 := hk.1.1
    have h8 := hk.1.2
    have HK := Lib.hid hk
    rw [show mDerivative f l = derL f l by unfold mDerivative; rw [if_pos hk]]
    clear hk
    go_enter Tryd.func20, Tryd.ntmps20
    go_wp2_with fail
    refine R1.mono ?_
    rintro e w' ⟨rfl, rfl⟩
    go_wp2_with fail
    refine (der_c f a l cap w ht h0 h8 hn HK.out.2.2 HS.out).mono ?_
    rintro e w2 ⟨g, rfl, hg, hO, hB⟩
    have HO := Lib.hid hO
    clear hO
    go_wp2
    go_ret
    exact OwnG.finish hg HO.out hB
  · rw [pok_not.2 hk] at R1
    rw [show mDerivative f l = [] by unfold mDerivative; rw [if_neg hk]]
    clear hk
    go_enter Tryd.func20, Tryd.ntmps20
    go_wp2_with fail
    refine R1.mono ?_
    rintro e w' ⟨rfl, rfl⟩
    go_wp2
    go_ret
    exact ⟨none, 0, rfl, OwnA.nil rfl, Below.refl _ _⟩
theorem iDegree (f : Int) (a : Option Addr) (l : List Int) (cap : Nat) (w : World) (hn : l.length ≤ 1048576) (hs : Src w a l.length (lf l)) (ht : Tab w) : Calls Tryd.prog 18 #[.int .i64 f, .slice a l.length cap] w (IntP w (mDegree f l)) := by
  have H1 := iPolyOk f a l cap w hn hs ht
  by_cases hk : PolOk f l
  · rw [pok_iff.2 hk] at H1
    have HX : Hid (mDegree f l = (l.length : Int) - 1) := Lib.hid (by unfold mDegree; rw [if_pos hk])
    rw [HX.out]
    clear hk
    go_enter Tryd.func18, Tryd.ntmps18
    go_wp2_with fail
    refine H1.mono ?_
    rintro e w' ⟨rfl, rfl⟩
    go_wp2
    go_ret
    exact ⟨rfl, Below.refl _ _⟩
  · rw [pok_not.2 hk] at H1
    have HX : Hid (mDegree f l = -2) := Lib.hid (by unfold mDegree; rw [if_neg hk])
    rw [HX.out]
    clear hk
    go_enter Tryd.func18, Tryd.ntmps18
    go_wp2_with fail
    refine H1.mono ?_
    rintro e w' ⟨rfl, rfl⟩
    go_wp2
    go_ret
    exact ⟨rfl, Below.refl _ _⟩
set_option maxRecDepth 100000 in
set_option maxHeartbeats 1600000 in
theorem iTrim_some (f : Int) (b off n cap : Nat) (F : Nat → Int) (w : World) (ht : Tab w) (h0 : 0 ≤ f) (h8 : f ≤ 8) (hn : n ≤ 400) (hlt : b < w.heap.size) (hc : ∀ j, j < n → w.cell? ⟨b, off + j, none⟩ = some (.int .i64 (F j))) :
    Calls Tryd.prog 30 #[.int .i64 f, .slice (some ⟨b, off, none⟩) n cap] w (OwnG w (cutL n (fun j => RS (F j) (P f)))) := by
  have HC := Lib.hid hc
  clear hc
  have hmk := made_n n (by omega)
  have hd1 : decide ((400 : Int) < n) = false := by simp; omega
  go_enter Tryd.func30, Tryd.ntmps30
  go_wp2_with fail
  refine (known_yes f w h0 h8).mono ?_
  rintro e w' ⟨rfl, rfl⟩
  go_wp2_with fail
  clear hmk
  go_loopw [7, 8, 23] (fun _ _ i wr => ∃ k : Nat, i = .int .i64 k ∧ k ≤ n ∧ Own wr w.heap.size n (fun j => if j < k then RS (F j) (P f) else 0) ∧ Below w.heap.size w wr) (fun _ _ i _ => n - (intOf i).toNat)
  case atStart =>
    refine ⟨0, rfl, Nat.zero_le _, ?_, (Below.refl _ _).alloc (Nat.le_refl _) _⟩
    exact (World.rowIs_made w (.int .i64 0) n 3).congr fun j _ => by simp
  case round =>
    obtain ⟨k, rfl, hk, ho, hb⟩ := hrel
    by_cases h1 : k < n
    · have d1 : wr.cell? ⟨b, off + k, none⟩ = some (.int .i64 (F k)) := (hb.cell (p := ⟨b, off + k, none⟩) hlt).trans (HC.out k h1)
      have c2 := World.rowIs.cell ho h1
      have c3 := World.rowIs.frozen ho k
      have HT := Lib.hid (ht.below hb)
      have HS := Lib.hid (own_step (F := fun j => RS (F j) (P f)) ho)
      go_wp2_with fail
      refine (reduce_c f (F k) wr HT.out h0 h8).mono ?_
      rintro e w' ⟨rfl, rfl⟩
      go_wp2
      go_roundw
      case rel => exact ⟨k + 1, by go_num, by omega, HS.out, hb.setCell (Nat.le_refl _) _⟩
      case measure => simp [intOf]; omega
    · have hd : decide (k < n) = false := by simpa using h1
      obtain rfl : k = n := by omega
      go_wp2_with fail
      refine (poly_own (G := fun j => RS (F j) (P f)) (by omega) ho (fun j hj => by simp [hj]) hb).mono ?_
      rintro e w2 ⟨g, rfl, hg, hO, hB⟩
      have HO := Lib.hid hO
      clear hO ho
      go_wp2
      go_ret
      exact ⟨g, rfl, hg, HO.out, hB⟩
theorem iTrim_none (f : Int) (a : Option Addr) (cap : Nat) (F : Nat → Int) (w : World) (h0 : 0 ≤ f) (h8 : f ≤ 8) : Calls Tryd.prog 30 #[.int .i64 f, .slice a 0 cap] w (OwnG w (cutL 0 F)) := by
  have hmk := made0
  go_enter Tryd.func30, Tryd.ntmps30
  go_wp2_with fail
  refine (known_yes f w h0 h8).mono ?_
  rintro e w' ⟨rfl, rfl⟩
  go_wp2_with fail
  refine wp_loop_rounds 1 ?_
  rw [rounds_succ]
  clear hmk
  go_wp2_with fail
  refine (poly_own (n := 0) (G := F) (by omega) (World.rowIs_made w (.int .i64 0) 0 3) (fun j hj => by omega) ((Below.refl _ _).alloc (Nat.le_refl _) _)).mono ?_
  rintro e w2 ⟨g, rfl, hg, hO, hB⟩
  have HO := Lib.hid hO
  clear hO
  go_wp2
  go_ret
  exact ⟨g, rfl, hg, HO.out, hB⟩
theorem iTrim_off (f : Int) (a : Option Addr) (n cap : Nat) (w : World) (hk : ¬ ((0 ≤ f ∧ f ≤ 8) ∧ n ≤ 400)) (hn : n ≤ 1048576) : Calls Tryd.prog 30 #[.int .i64 f, .slice a n cap] w (NilP w) := by
  by_cases h : 0 ≤ f ∧ f ≤ 8
  · have hd : decide ((400 : Int) < n) = true := by simp; omega
    go_enter Tryd.func30, Tryd.ntmps30
    go_wp2_with fail
    refine (known_yes f w h.1 h.2).mono ?_
    rintro e w' ⟨rfl, rfl⟩
    go_wp2
    go_ret
    exact ⟨rfl, Below.refl _ _⟩
  · go_enter Tryd.func30, Tryd.ntmps30
    go_wp2_with fail
    refine (known_no f w (by omega)).mono ?_
    rintro e w' ⟨rfl, rfl⟩
    go_wp2
    go_ret
    exact ⟨rfl, Below.refl _ _⟩
theorem iTrim (f : Int) (a : Option Addr) (l : List Int) (cap : Nat) (w : World) (hn : l.length ≤ 1048576) (hs : Src w a l.length (lf l)) (ht : Tab w) : Calls Tryd.prog 30 #[.int .i64 f, .slice a l.length cap] w (OwnL w (mTrim f l)) := by
  by_cases hk : (0 ≤ f ∧ f ≤ 8) ∧ l.length ≤ 400
  · rw [show mTrim f l = cutL l.length (fun j => RS (lf l j) (P f)) by unfold mTrim; rw [if_pos hk]; rfl]
    rcases hs with hz | ⟨b, off, rfl, hlt, hc⟩
    · rw [hz]
      exact (iTrim_none f a cap _ w hk.1.1 hk.1.2).mono fun _ _ h => h.own
    · exact (iTrim_some f b off l.length cap (lf l) w ht hk.1.1 hk.1.2 hk.2 hlt hc).mono fun _ _ h => h.own
  · exact (iTrim_off f a l.length cap w hk hn).mono fun _ _ h => h.own (by unfold mTrim; rw [if_neg hk])
end Go.Proofs.YthmbgiidfngmdaaDoor
namespace Go.Proofs.YthmbgiidfngmdaaDoor
open Go.RowKit
theorem OwnA.capEq {w : World} {B : Nat} {a : Option Addr} {l : List Int} {cap : Nat} (h : OwnA w B a l cap) : l.length = cap := by
  rcases h with ⟨_, rfl, hz⟩ | ⟨g, _, h, _⟩
  · exact hz
  · exact h.symm
theorem shift_off {f : Int} {l : List Int} {n : Int} (h : ¬ okShift f l n) : mShiftPoly0 f l n = [] ∧ mShiftPoly1 f l n = false := by
  unfold mShiftPoly0 mShiftPoly1
  rw [if_neg h]
  exact ⟨rfl, by simp [h]⟩
theorem shift_on {f : Int} {l : List Int} {n : Int} (h : okShift f l n) : mShiftPoly0 f l n = shiftL l n ∧ mShiftPoly1 f l n = true := by
  unfold mShiftPoly0 mShiftPoly1
  rw [if_pos h]
  exact ⟨rfl, by simp [h]⟩
theorem shift_none {f : Int} {l : List Int} {n : Int} (hp : PolOk f l) (h : l.length = 0 ∨ n ≤ -(l.length : Int)) : mShiftPoly0 f l n = [] ∧ mShiftPoly1 f l n = true := by
  have := shift_on (f := f) (l := l) (n := n) ⟨hp, by omega⟩
  rw [this.1, this.2]
  unfold shiftL
  rw [if_pos h]
  exact ⟨rfl, rfl⟩
def upF (F : Nat → Int) (k : Nat) : Nat → Int := fun j => if j < k then 0 else F (j - k)
theorem shift_down {f : Int} {l : List Int} {k : Nat} (hp : PolOk f l) (k0 : 0 < k) (hk : k < l.length) : mShiftPoly0 f l (-(k : Int)) = cutL (l.length - k) (fun j => lf l (k + j)) ∧ mShiftPoly0 f l (-(k : Int)) = tab (l.length - k) (fun j => lf l (k + j)) ∧ mShiftPoly1 f l (-(k : Int)) = true := by
  have h4 := hp.2.1
  have h1 := shift_on (f := f) (l := l) (n := -(k : Int)) ⟨hp, .inr (by omega)⟩
  have h2 : shiftL l (-(k : Int)) = tab (l.length - k) (fun j => lf l (k + j)) := by
    unfold shiftL
    rw [if_neg (by omega), if_pos (by omega), show (-(-(k : Int))).toNat = k by omega]
    exact tab_congr fun j _ => by rw [Nat.add_comm]
  have h3 : cutL (l.length - k) (fun j => lf l (k + j)) = tab (l.length - k) (fun j => lf l (k + j)) := by
    unfold cutL
    rw [cutN_full]
    refine .inr ?_
    rcases hp.2.2.2 with h | h
    · omega
    · rw [show k + (l.length - k - 1) = l.length - 1 by omega]
      exact h
  exact ⟨h1.1.trans (h2.trans h3.symm), h1.1.trans h2, h1.2⟩
theorem shift_up {f : Int} {l : List Int} {k : Nat} (hp : PolOk f l) (hl : l.length ≠ 0) (hk : k + l.length ≤ 400) : mShiftPoly0 f l k = tab (k + l.length) (upF (lf l) k) ∧ mShiftPoly1 f l k = true := by
  have h1 := shift_on (f := f) (l := l) (n := (k : Int)) ⟨hp, by omega⟩
  have h2 : shiftL l (k : Int) = tab (k + l.length) (upF (lf l) k) := by
    unfold shiftL
    rw [if_neg (by omega), if_neg (by omega)]
    rfl
  exact ⟨h1.1.trans h2, h1.2⟩
theorem Src.drop {w : World} {a : Option Addr} {n k : Nat} {F : Nat → Int} (h : Src w a n F) (hk : k < n) : ∃ b off, a = some ⟨b, off, none⟩ ∧ Src w (some ⟨b, off + k, none⟩) (n - k) (fun j => F (k + j)) := by
  rcases h with h | ⟨b, off, rfl, hlt, hc⟩
  · omega
  · refine ⟨b, off, rfl, .inr ⟨b, off + k, rfl, hlt, fun j hj => ?_⟩⟩
    rw [Nat.add_assoc]
    exact hc (k + j) (by omega)
set_option maxRecDepth 100000 in
set_option maxHeartbeats 1600000 in
theorem iShift_up (f : Int) (b off n k cap : Nat) (F : Nat → Int) (w : World) (R : Calls Tryd.prog 22 #[.int .i64 f, .slice (some ⟨b, off, none⟩) n cap] w (SameB w true)) (n0 : 0 < n) (hn : k + n ≤ 400) (hlt : b < w.heap.size) (hc : ∀ j, j < n → w.cell? ⟨b, off + j, none⟩ = some (.int .i64 (F j))) :
    Calls Tryd.prog 26 #[.int .i64 f, .slice (some ⟨b, off, none⟩) n cap, .int .i64 (k : Int)] w fun e w' => e = .returned (.tuple #[.slice (some ⟨w.heap.size, 0, none⟩) (k + n) (k + n), .bool true]) ∧ Own w' w.heap.size (k + n) (upF F k) ∧ Below w.heap.size w w' := by
  have HS : Hid (Src w (some ⟨b, off, none⟩) n F) := Lib.hid (.inr ⟨b, off, rfl, hlt, hc⟩)
  clear hc
  have z1 : ((n : Int) == 0) = false := by simp; omega
  have d1 : decide ((k : Int) ≤ -(n : Int)) = false := decide_eq_false (by omega)
  have d2 : decide ((k : Int) < 0) = false := decide_eq_false (by omega)
  have d3 : decide ((400 : Int) - n < k) = false := decide_eq_false (by omega)
  have hmk := made_n (k + n) (by omega)
  rw [show ((k + n : Nat) : Int) = (k : Int) + n from rfl] at hmk
  go_enter Tryd.func26, Tryd.ntmps26
  go_wp2_with fail
  refine R.mono ?_
  rintro e w' ⟨rfl, rfl⟩
  clear R
  go_wp2_with (with_reducible refine wpList_copy_made rfl _ _ rfl (k + n) k n n n cap _ _ F rfl rfl (fun _ => rfl) (Nat.le_refl _) (Nat.le_refl _) HS.out ?_)
  intro w2 HO hb
  have HO := Lib.hid (own_congr (G := upF F k) HO.out rfl (fun j hj => by
    unfold upF
    by_cases h : j < k
    · simp [h, show ¬ k ≤ j by omega]
    · simp [h, show k ≤ j by omega, hj]))
  clear hmk
  go_wp2
  go_ret2
  exact ⟨rfl, HO.out, hb⟩
set_option maxRecDepth 100000 in
set_option maxHeartbeats 1600000 in
theorem iShiftPoly (f : Int) (a : Option Addr) (l : List Int) (cap : Nat) (n : Int) (w : World) (hn : l.length ≤ 1048576) (hs : Src w a l.length (lf l)) (hcap : l.length = cap) (ht : Tab w) :
    Calls Tryd.prog 26 #[.int .i64 f, .slice a l.length cap, .int .i64 n] w (OwnLB w (mShiftPoly0 f l n) (mShiftPoly1 f l n)) := by
  have R := iPolyOk f a l cap w hn hs ht
  by_cases hp : PolOk f l
  · rw [pok_iff.2 hp] at R
    have h4 := hp.2.1
    by_cases hz : l.length = 0
    · have HX := Lib.hid (shift_none (n := n) hp (.inl hz))
      rw [HX.out.1, HX.out.2]
      have HP := poly_none none 0 (fun _ => 0) w
      rw [show cutL 0 (fun _ => 0) = [] from rfl] at HP
      rw [hz] at R ⊢
      clear HX hs hp hcap
      go_enter Tryd.func26, Tryd.ntmps26
      go_wp2_with fail
      refine R.mono ?_
      rintro e w' ⟨rfl, rfl⟩
      clear R
      go_wp2_with fail
      refine HP.mono ?_
      rintro e w2 ⟨g, rfl, hg, hO, hB⟩
      have HO := Lib.hid hO
      clear hO HP
      go_wp2
      go_ret2
      exact ⟨_, _, rfl, .inr ⟨g, rfl, rfl, hg, HO.out⟩, hB⟩
    · have z1 : ((l.length : Int) == 0) = false := by simp; intro h; exact hz (by rw [h]; rfl)
      by_cases h1 : n ≤ -(l.length : Int)
      · have HX := Lib.hid (shift_none (n := n) hp (.inr h1))
        rw [HX.out.1, HX.out.2]
        have HP := poly_none none 0 (fun _ => 0) w
        rw [show cutL 0 (fun _ => 0) = [] from rfl] at HP
        have d1 : decide (n ≤ -(l.length : Int)) = true := decide_eq_true h1
        clear HX hs hp hcap
        go_enter Tryd.func26, Tryd.ntmps26
        go_wp2_with fail
        refine R.mono ?_
        rintro e w' ⟨rfl, rfl⟩
        clear R
        go_wp2_with fail
        refine HP.mono ?_
        rintro e w2 ⟨g, rfl, hg, hO, hB⟩
        have HO := Lib.hid hO
        clear hO HP
        go_wp2
        go_ret2
        exact ⟨_, _, rfl, .inr ⟨g, rfl, rfl, hg, HO.out⟩, hB⟩
      · have d1 : decide (n ≤ -(l.length : Int)) = false := decide_eq_false h1
        by_cases h2 : n < 0
        · obtain ⟨k, rfl⟩ : ∃ k : Nat, n = -(k : Int) := ⟨(-n).toNat, by omega⟩
          obtain ⟨b, off, rfl, hd⟩ := hs.drop (k := k) (by omega)
          have HX := Lib.hid (shift_down (f := f) (l := l) (k := k) hp (by omega) (by omega))
          have HP := Lib.hid (poly_c (some ⟨b, off + k, none⟩) (l.length - k) (cap - k) (fun j => lf l (k + j)) w (by omega) hd)
          rw [HX.out.2.2, HX.out.1]
          generalize cutL (l.length - k) (fun j => lf l (k + j)) = L at HP ⊢
          generalize l.length = m at *
          subst hcap
          clear HX hd hp hs
          go_enter Tryd.func26, Tryd.ntmps26
          go_wp2_with fail
          refine R.mono ?_
          rintro e w' ⟨rfl, rfl⟩
          clear R
          go_wp2_with fail
          refine HP.out.mono ?_
          rintro e w2 ⟨g, rfl, hg, hO, hB⟩
          have HO := Lib.hid hO
          clear hO HP
          go_wp2
          go_ret2
          exact ⟨_, _, rfl, .inr ⟨g, rfl, rfl, hg, HO.out⟩, hB⟩
        · have d2 : decide (n < 0) = false := decide_eq_false h2
          by_cases h3 : 400 - (l.length : Int) < n
          · have HX := Lib.hid (shift_off (f := f) (l := l) (n := n) (fun h => by rcases h.2 with h | h <;> omega))
            rw [HX.out.1, HX.out.2]
            have d3 : decide (400 - (l.length : Int) < n) = true := decide_eq_true h3
            clear HX hs hp hcap
            go_enter Tryd.func26, Tryd.ntmps26
            go_wp2_with fail
            refine R.mono ?_
            rintro e w' ⟨rfl, rfl⟩
            clear R
            go_wp2
            go_ret2
            exact ⟨none, 0, rfl, OwnA.nil rfl, Below.refl _ _⟩
          · obtain ⟨k, rfl⟩ : ∃ k : Nat, n = (k : Int) := ⟨n.toNat, by omega⟩
            have HX := shift_up (f := f) (l := l) (k := k) hp hz (by omega)
            rw [HX.1, HX.2]
            rcases hs with h | ⟨b, off, rfl, hlt, hc⟩
            · exact absurd h hz
            · refine (iShift_up f b off l.length k cap (lf l) w R (by omega) (by omega) hlt hc).mono ?_
              rintro e w2 ⟨rfl, ho, hb⟩
              refine ⟨some ⟨w.heap.size, 0, none⟩, k + l.length, by rw [tab_len], OwnA.of ho (tab_len _ _).symm (Nat.le_refl _) (fun j hj => ?_), hb⟩
              rw [lf_tab, if_pos hj]
  · rw [pok_not.2 hp] at R
    have HX := Lib.hid (shift_off (f := f) (l := l) (n := n) (fun h => hp h.1))
    rw [HX.out.1, HX.out.2]
    clear HX hs hp hcap
    go_enter Tryd.func26, Tryd.ntmps26
    go_wp2_with fail
    refine R.mono ?_
    rintro e w' ⟨rfl, rfl⟩
    clear R
    go_wp2
    go_ret2
    exact ⟨none, 0, rfl, OwnA.nil rfl, Below.refl _ _⟩
theorem upF_low {F : Nat → Int} {k i : Nat} (h : i < k) : upF F k i = 0 := if_pos h
theorem upF_at (F : Nat → Int) (k i : Nat) : upF F k (k + i) = F i := by unfold upF; rw [if_neg (by omega), Nat.add_sub_cancel_left]
set_option maxRecDepth 100000 in
set_option maxHeartbeats 3200000 in
theorem sShift_up (f : Int) (b off n k cap : Nat) (F : Nat → Int) (w : World) (R : Calls Tryd.prog 21 #[.int .i64 f, .slice (some ⟨b, off, none⟩) n cap] w (SameB w true)) (n0 : 0 < n) (hn : k + n ≤ 400) (hlt : b < w.heap.size) (hc : ∀ j, j < n → w.cell? ⟨b, off + j, none⟩ = some (.int .i64 (F j))) :
    Calls Tryd.prog 25 #[.int .i64 f, .slice (some ⟨b, off, none⟩) n cap, .int .i64 (k : Int)] w fun e w' => ∃ v, e = .returned (.tuple #[v, .bool true]) ∧ w'.ownsRow w.heap.size 3 1 v (k + n) (xsF (upF F k) (k + n)) ∧ Below w.heap.size w w' := by
  have HC := Lib.hid hc
  clear hc
  have z1 : ((n : Int) == 0) = false := by simp; omega
  have d2 : decide ((k : Int) < 0) = false := decide_eq_false (by omega)
  have d3 : decide ((400 : Int) - n < k) = false := decide_eq_false (by omega)
  obtain ⟨i0, hi, hz0, hz1, hz2⟩ := info_parts info3
  have HI := Lib.hid hi
  have HZ0 := Lib.hid hz0
  have HZ1 := Lib.hid hz1
  have HZ2 := Lib.hid hz2
  clear hi hz0 hz1 hz2
  go_enter Tryd.func25, Tryd.ntmps25
  go_wp2_with fail
  refine R.mono ?_
  rintro e w' ⟨rfl, rfl⟩
  clear R
  go_wp2_with fail
  go_loopw [8, 9] (fun v i wr => ∃ i' : Nat, i = .int .i64 i' ∧ i' ≤ k ∧ wr.ownsRow w.heap.size 3 1 v i' (xsF (upF F k) i') ∧ Below w.heap.size w wr) (fun _ i _ => k - (intOf i).toNat)
  case atStart => exact ⟨0, rfl, Nat.zero_le _, own_empty w _, (Below.refl _ _).alloc (Nat.le_refl _) _⟩
  case round =>
    obtain ⟨i, rfl, hi, hown, hnx⟩ := hrel
    by_cases h1 : i < k
    · have hs := hnx.size
      go_wp2_with (at_builtin; refine wpList_append_own _ rfl _ _ 22 rfl w.heap.size 3 i0 (.int .i64 0) 1 8 Tryd.underlying22 HI.out HZ0.out HZ1.out HZ2.out rfl (by decide) _ _ _ rfl (hown.alloc _) ⟨wr.heap.size, 0, none⟩ 1 1 [.int .i64 0] rfl rfl ?c1 ?c2 ?c3 ?c4 ?c5 ?_)
      case c1 => exact cell_one_new _ _ _
      case c2 => intro u hu; simp at hu; subst hu; rfl
      case c3 => unfold maxLen; omega
      case c4 => omega
      case c5 => simp; omega
      intro v' w1 hown' hgrow _
      have hbel : Below w.heap.size w w1 := (hnx.alloc hs _).grown hgrow (by simp; omega) (own_ge hown)
      rw [← upF_low (F := F) h1, xsF_succ] at hown'
      clear hgrow hown
      go_wp2
      go_roundw
      case rel => exact ⟨i + 1, by go_num, by omega, hown', hbel⟩
      case measure => simp [intOf]; omega
    · have hd : decide ((i : Int) < k) = false := decide_eq_false (by omega)
      obtain rfl : i = k := by omega
      have HO := Lib.hid hown
      clear hown
      go_wp2_with fail
      go_loopw [8, 10] (fun v j wr => ∃ j' : Nat, j = .int .i64 j' ∧ j' ≤ n ∧ wr.ownsRow w.heap.size 3 1 v (i + j') (xsF (upF F i) (i + j')) ∧ Below w.heap.size w wr) (fun _ j _ => n - (intOf j).toNat)
      case atStart => exact ⟨0, rfl, Nat.zero_le _, HO.out, hnx⟩
      case round =>
        clear HO hnx
        obtain ⟨j, rfl, hj, hown, hnx⟩ := hrel
        by_cases h1 : j < n
        · have hc2 : wr.cell? ⟨b, off + j, none⟩ = some (.int .i64 (F j)) := (hnx.cell (p := ⟨b, off + j, none⟩) hlt).trans (HC.out j h1)
          have hs := hnx.size
          go_wp2_with (at_builtin; refine wpList_append_own _ rfl _ _ 22 rfl w.heap.size 3 i0 (.int .i64 0) 1 8 Tryd.underlying22 HI.out HZ0.out HZ1.out HZ2.out rfl (by decide) _ _ _ rfl (hown.alloc _) ⟨wr.heap.size, 0, none⟩ 1 1 [.int .i64 (F j)] rfl rfl ?e1 ?e2 ?e3 ?e4 ?e5 ?_)
          case e1 => exact cell_one_new _ _ _
          case e2 => intro u hu; simp at hu; subst hu; rfl
          case e3 => unfold maxLen; omega
          case e4 => omega
          case e5 => simp; omega
          intro v' w1 hown' hgrow _
          have hbel : Below w.heap.size w w1 := (hnx.alloc hs _).grown hgrow (by simp; omega) (own_ge hown)
          rw [← upF_at F i j, xsF_succ] at hown'
          clear hgrow hown hc2
          go_wp2
          go_roundw
          case rel => exact ⟨j + 1, by go_num, by omega, hown', hbel⟩
          case measure => simp [intOf]; omega
        · have hd2 : decide ((j : Int) < n) = false := decide_eq_false (by omega)
          obtain rfl : j = n := by omega
          have HO := Lib.hid hown
          clear hown
          go_wp2
          go_ret2
          exact ⟨_, rfl, HO.out, hnx⟩
set_option maxRecDepth 100000 in
set_option maxHeartbeats 1600000 in
theorem sShiftPoly (f : Int) (a : Option Addr) (l : List Int) (cap : Nat) (n : Int) (w : World) (hn : l.length ≤ 1048576) (hs : Src w a l.length (lf l)) (hcap : l.length = cap) :
    Calls Tryd.prog 25 #[.int .i64 f, .slice a l.length cap, .int .i64 n] w (ListLB w (mShiftPoly0 f l n) (mShiftPoly1 f l n)) := by
  have R := sPolyOk f a l cap w hn hs
  by_cases hp : PolOk f l
  · rw [pok_iff.2 hp] at R
    have h4 := hp.2.1
    by_cases hz : l.length = 0
    · have HX := Lib.hid (shift_none (n := n) hp (.inl hz))
      rw [HX.out.1, HX.out.2]
      rw [hz] at R ⊢
      clear HX hs hp hcap
      go_enter Tryd.func25, Tryd.ntmps25
      go_wp2_with fail
      refine R.mono ?_
      rintro e w' ⟨rfl, rfl⟩
      clear R
      go_wp2
      go_ret2
      exact ⟨none, 0, rfl, .inl rfl, Below.refl _ _⟩
    · have z1 : ((l.length : Int) == 0) = false := by simp; intro h; exact hz (by rw [h]; rfl)
      by_cases h2 : n < 0
      · have d2 : decide (n < 0) = true := decide_eq_true h2
        by_cases h1 : n ≤ -(l.length : Int)
        · have HX := Lib.hid (shift_none (n := n) hp (.inr h1))
          rw [HX.out.1, HX.out.2]
          have d1 : decide (n ≤ -(l.length : Int)) = true := decide_eq_true h1
          clear HX hs hp hcap
          go_enter Tryd.func25, Tryd.ntmps25
          go_wp2_with fail
          refine R.mono ?_
          rintro e w' ⟨rfl, rfl⟩
          clear R
          go_wp2
          go_ret2
          exact ⟨none, 0, rfl, .inl rfl, Below.refl _ _⟩
        · have d1 : decide (n ≤ -(l.length : Int)) = false := decide_eq_false h1
          obtain ⟨k, rfl⟩ : ∃ k : Nat, n = -(k : Int) := ⟨(-n).toNat, by omega⟩
          obtain ⟨b, off, rfl, hd⟩ := hs.drop (k := k) (by omega)
          have HX := Lib.hid (shift_down (f := f) (l := l) (k := k) hp (by omega) (by omega))
          have HP := Lib.hid (copy_c (some ⟨b, off + k, none⟩) (l.length - k) (cap - k) (fun j => lf l (k + j)) w (by omega) hd)
          rw [HX.out.2.2, HX.out.2.1]
          have HT : Hid (∀ (v : Value) (w2 : World), w2.ownsRow w.heap.size 3 1 v (l.length - k) (xsF (fun j => lf l (k + j)) (l.length - k)) → Below w.heap.size w w2 → ListLB w (tab (l.length - k) (fun j => lf l (k + j))) true (.returned (.tuple #[v, .bool true])) w2) := Lib.hid (fun v w2 ho hb => by
            obtain ⟨a3, cap3, rfl, _, hs3⟩ := src_of_owns2 ho
            refine ⟨a3, cap3, by rw [tab_len], ?_, hb⟩
            rw [tab_len]
            refine hs3.imp id ?_
            rintro ⟨b3, off3, e3, hlt3, hc3⟩
            exact ⟨b3, off3, e3, hlt3, fun j hj => by rw [hc3 j hj, lf_tab, if_pos hj]⟩)
          generalize tab (l.length - k) (fun j => lf l (k + j)) = L at HT ⊢
          generalize (fun j => lf l (k + j)) = G at HP HT
          generalize l.length = m at *
          subst hcap
          clear HX hd hp hs
          go_enter Tryd.func25, Tryd.ntmps25
          go_wp2_with fail
          refine R.mono ?_
          rintro e w' ⟨rfl, rfl⟩
          clear R
          go_wp2_with fail
          refine HP.out.mono ?_
          rintro e w2 ⟨v, rfl, hO, hB⟩
          have HO := Lib.hid hO
          clear hO HP
          go_wp2
          go_ret2
          exact HT.out v w2 HO.out hB
      · have d2 : decide (n < 0) = false := decide_eq_false h2
        by_cases h3 : 400 - (l.length : Int) < n
        · have HX := Lib.hid (shift_off (f := f) (l := l) (n := n) (fun h => by rcases h.2 with h | h <;> omega))
          rw [HX.out.1, HX.out.2]
          have d3 : decide (400 - (l.length : Int) < n) = true := decide_eq_true h3
          clear HX hs hp hcap
          go_enter Tryd.func25, Tryd.ntmps25
          go_wp2_with fail
          refine R.mono ?_
          rintro e w' ⟨rfl, rfl⟩
          clear R
          go_wp2
          go_ret2
          exact ⟨none, 0, rfl, .inl rfl, Below.refl _ _⟩
        · obtain ⟨k, rfl⟩ : ∃ k : Nat, n = (k : Int) := ⟨n.toNat, by omega⟩
          have HX := shift_up (f := f) (l := l) (k := k) hp hz (by omega)
          rw [HX.1, HX.2]
          rcases hs with h | ⟨b, off, rfl, hlt, hc⟩
          · exact absurd h hz
          · refine (sShift_up f b off l.length k cap (lf l) w R (by omega) (by omega) hlt hc).mono ?_
            rintro e w2 ⟨v, rfl, ho, hb⟩
            obtain ⟨a3, cap3, rfl, _, hs3⟩ := src_of_owns2 ho
            refine ⟨a3, cap3, by rw [tab_len], ?_, hb⟩
            rw [tab_len]
            refine hs3.imp id ?_
            rintro ⟨b3, off3, e3, hlt3, hc3⟩
            exact ⟨b3, off3, e3, hlt3, fun j hj => by rw [hc3 j hj, lf_tab, if_pos hj]⟩
  · rw [pok_not.2 hp] at R
    have HX := Lib.hid (shift_off (f := f) (l := l) (n := n) (fun h => hp h.1))
    rw [HX.out.1, HX.out.2]
    clear HX hs hp hcap
    go_enter Tryd.func25, Tryd.ntmps25
    go_wp2_with fail
    refine R.mono ?_
    rintro e w' ⟨rfl, rfl⟩
    clear R
    go_wp2
    go_ret2
    exact ⟨none, 0, rfl, .inl rfl, Below.refl _ _⟩
end Go.Proofs.YthmbgiidfngmdaaDoor
