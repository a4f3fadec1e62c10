/-
  The program's functions on polynomials that answer lists.
-/
import Derived.Test.YthepiainflbglaaDoorWalkYD
import Derived.Test.YthepiainflbglaaDoorWalkYF
namespace Go.Proofs.YthepiainflbglaaDoor
open Go.RowKit
theorem OwnG.finish {w w' : World} {l : List Int} {g : Nat} (hg : w.heap.size ≤ g) (ho : Own w' g l.length (lf l)) (hb : Below w.heap.size w w') : OwnL w l (.returned (.slice (some ⟨g, 0, none⟩) l.length l.length)) w' := OwnG.own ⟨g, rfl, hg, ho, hb⟩
theorem iAddPoly_off (f : Int) (a : Option Addr) (l : List Int) (cap : Nat) (a2 : Option Addr) (m : List Int) (cap2 : Nat) (w : World) (hn : l.length ≤ 1048576) (hn2 : m.length ≤ 1048576) (hs : Src w a l.length (lf l)) (hs2 : Src w a2 m.length (lf m)) (ht : Tab w) (hk : ¬ (PolOk f l ∧ PolOk f m)) :
    Calls Tryd.prog 22 #[.int .i64 f, .slice a l.length cap, .slice a2 m.length cap2] w (NilP w) := by
  have HS := Lib.hid hs
  have HS2 := Lib.hid hs2
  have BA : Hid (∀ o, Below w.heap.size w (w.alloc o)) := Lib.hid fun o => (Below.refl _ _).alloc (Nat.le_refl _) o
  clear hs hs2
  have HB : Hid ((mPolyOk f l && mPolyOk f m) = false) := Lib.hid (by
    by_cases h1 : PolOk f l
    · rw [pok_not.2 fun h => hk ⟨h1, h⟩, Bool.and_false]
    · rw [pok_not.2 h1, Bool.false_and])
  clear hk
  go_enter Tryd.func22, Tryd.ntmps22
  go_wp2_with fail
  refine (arePolys_c f w.heap.size a a2 l m cap cap2 _ hn hn2 (HS.out.keep (BA.out _)) (HS2.out.keep (BA.out _)) (ht.below (BA.out _)) (cell_two _ _ _ _).1 (cell_two _ _ _ _).2).mono ?_
  rintro e w' ⟨rfl, rfl⟩
  rw [HB.out]
  go_wp2
  go_ret
  exact ⟨rfl, BA.out _⟩
set_option maxRecDepth 100000 in
set_option maxHeartbeats 1600000 in
theorem iAddPoly_on (f : Int) (a : Option Addr) (l : List Int) (cap : Nat) (a2 : Option Addr) (m : List Int) (cap2 : Nat) (w : World) (hn : l.length ≤ 1048576) (hn2 : m.length ≤ 1048576) (hs : Src w a l.length (lf l)) (hs2 : Src w a2 m.length (lf m)) (ht : Tab w) (hl : PolOk f l) (hm : PolOk f m) :
    Calls Tryd.prog 22 #[.int .i64 f, .slice a l.length cap, .slice a2 m.length cap2] w (OwnL w (addL f l m)) := by
  have HS := Lib.hid hs
  have HS2 := Lib.hid hs2
  have BA : Hid (∀ o, Below w.heap.size w (w.alloc o)) := Lib.hid fun o => (Below.refl _ _).alloc (Nat.le_refl _) o
  clear hs hs2
  have HB : Hid ((mPolyOk f l && mPolyOk f m) = true) := Lib.hid (by rw [pok_iff.2 hl, pok_iff.2 hm]; rfl)
  have h0 := hl.1.1
  have h8 := hl.1.2
  have HL := Lib.hid hl
  have HM := Lib.hid hm
  clear hl hm
  go_enter Tryd.func22, Tryd.ntmps22
  go_wp2_with fail
  refine (arePolys_c f w.heap.size a a2 l m cap cap2 _ hn hn2 (HS.out.keep (BA.out _)) (HS2.out.keep (BA.out _)) (ht.below (BA.out _)) (cell_two _ _ _ _).1 (cell_two _ _ _ _).2).mono ?_
  rintro e w' ⟨rfl, rfl⟩
  rw [HB.out]
  go_wp2_with fail
  refine (sum_c f a a2 l m cap cap2 _ (ht.below (BA.out _)) h0 h8 hn hn2 HL.out.2.2 HM.out.2.2 (HS.out.keep (BA.out _)) (HS2.out.keep (BA.out _))).mono ?_
  rintro e w2 ho
  obtain ⟨g, rfl, hg, hO, hB⟩ := ho.up (BA.out _)
  have HO := Lib.hid hO
  clear hO ho
  go_wp2
  go_ret
  exact OwnG.finish hg HO.out hB
theorem iAddPoly (f : Int) (a : Option Addr) (l : List Int) (cap : Nat) (a2 : Option Addr) (m : List Int) (cap2 : Nat) (w : World) (hn : l.length ≤ 1048576) (hn2 : m.length ≤ 1048576) (hs : Src w a l.length (lf l)) (hs2 : Src w a2 m.length (lf m)) (ht : Tab w) :
    Calls Tryd.prog 22 #[.int .i64 f, .slice a l.length cap, .slice a2 m.length cap2] w (OwnL w (mAddPoly f l m)) := by
  by_cases hk : PolOk f l ∧ PolOk f m
  · rw [show mAddPoly f l m = addL f l m by unfold mAddPoly; rw [if_pos hk]]
    exact iAddPoly_on f a l cap a2 m cap2 w hn hn2 hs hs2 ht hk.1 hk.2
  · exact (iAddPoly_off f a l cap a2 m cap2 w hn hn2 hs hs2 ht hk).mono fun _ _ h => h.own (by unfold mAddPoly; rw [if_neg hk])
theorem iSubPoly_off (f : Int) (a : Option Addr) (l : List Int) (cap : Nat) (a2 : Option Addr) (m : List Int) (cap2 : Nat) (w : World) (hn : l.length ≤ 1048576) (hn2 : m.length ≤ 1048576) (hs : Src w a l.length (lf l)) (hs2 : Src w a2 m.length (lf m)) (ht : Tab w) (hk : ¬ (PolOk f l ∧ PolOk f m)) :
    Calls Tryd.prog 24 #[.int .i64 f, .slice a l.length cap, .slice a2 m.length cap2] w (NilP w) := by
  have HS := Lib.hid hs
  have HS2 := Lib.hid hs2
  have BA : Hid (∀ o, Below w.heap.size w (w.alloc o)) := Lib.hid fun o => (Below.refl _ _).alloc (Nat.le_refl _) o
  clear hs hs2
  have HB : Hid ((mPolyOk f l && mPolyOk f m) = false) := Lib.hid (by
    by_cases h1 : PolOk f l
    · rw [pok_not.2 fun h => hk ⟨h1, h⟩, Bool.and_false]
    · rw [pok_not.2 h1, Bool.false_and])
  clear hk
  go_enter Tryd.func24, Tryd.ntmps24
  go_wp2_with fail
  refine (arePolys_c f w.heap.size a a2 l m cap cap2 _ hn hn2 (HS.out.keep (BA.out _)) (HS2.out.keep (BA.out _)) (ht.below (BA.out _)) (cell_two _ _ _ _).1 (cell_two _ _ _ _).2).mono ?_
  rintro e w' ⟨rfl, rfl⟩
  rw [HB.out]
  go_wp2
  go_ret
  exact ⟨rfl, BA.out _⟩
set_option maxRecDepth 100000 in
set_option maxHeartbeats 1600000 in
theorem iSubPoly_on (f : Int) (a : Option Addr) (l : List Int) (cap : Nat) (a2 : Option Addr) (m : List Int) (cap2 : Nat) (w : World) (hn : l.length ≤ 1048576) (hn2 : m.length ≤ 1048576) (hs : Src w a l.length (lf l)) (hs2 : Src w a2 m.length (lf m)) (ht : Tab w) (hl : PolOk f l) (hm : PolOk f m) :
    Calls Tryd.prog 24 #[.int .i64 f, .slice a l.length cap, .slice a2 m.length cap2] w (OwnL w (addL f l (scaleL f m (-1)))) := by
  have HS := Lib.hid hs
  have HS2 := Lib.hid hs2
  have BA : Hid (∀ o, Below w.heap.size w (w.alloc o)) := Lib.hid fun o => (Below.refl _ _).alloc (Nat.le_refl _) o
  clear hs hs2
  have HB : Hid ((mPolyOk f l && mPolyOk f m) = true) := Lib.hid (by rw [pok_iff.2 hl, pok_iff.2 hm]; rfl)
  have h0 := hl.1.1
  have h8 := hl.1.2
  have HL := Lib.hid hl
  have HM := Lib.hid hm
  clear hl hm
  have hp := P_bd h0 h8
  go_enter Tryd.func24, Tryd.ntmps24
  go_wp2_with fail
  refine (arePolys_c f w.heap.size a a2 l m cap cap2 _ hn hn2 (HS.out.keep (BA.out _)) (HS2.out.keep (BA.out _)) (ht.below (BA.out _)) (cell_two _ _ _ _).1 (cell_two _ _ _ _).2).mono ?_
  rintro e w' ⟨rfl, rfl⟩
  rw [HB.out]
  go_wp2_with fail
  refine (prime_c f _ (ht.below (BA.out _)) h0 h8).mono ?_
  rintro e w' ⟨rfl, rfl⟩
  go_wp2_with fail
  refine (scaled_c f (P f - 1) a2 m cap2 _ (ht.below (BA.out _)) h0 h8 hn2 (by omega) (by omega) HM.out.2.2 (HS2.out.keep (BA.out _))).mono ?_
  rw [scale_neg]
  rintro e w2 ho
  obtain ⟨g, rfl, hg, hO, hB⟩ := ho.up (BA.out _)
  have HO := Lib.hid hO
  have HP : Hid (Pol f (scaleL f m (-1))) := Lib.hid (pol_scaleL h0 h8 m (-1))
  have HN : Hid ((scaleL f m (-1)).length ≤ 1048576) := Lib.hid (Nat.le_trans (scaleL_le _ _ _) hn2)
  clear hO ho
  generalize scaleL f m (-1) = s at *
  go_wp2_with fail
  refine (sum_c f a (some ⟨g, 0, none⟩) l s cap s.length w2 (ht.below hB) h0 h8 hn HN.out HL.out.2.2 HP.out (HS.out.keep hB) HO.out.src).mono ?_
  rintro e w3 ho
  obtain ⟨g2, rfl, hg2, hO2, hB2⟩ := ho.up hB
  have HO2 := Lib.hid hO2
  clear hO2 ho
  go_wp2
  go_ret
  exact OwnG.finish hg2 HO2.out hB2
theorem iSubPoly (f : Int) (a : Option Addr) (l : List Int) (cap : Nat) (a2 : Option Addr) (m : List Int) (cap2 : Nat) (w : World) (hn : l.length ≤ 1048576) (hn2 : m.length ≤ 1048576) (hs : Src w a l.length (lf l)) (hs2 : Src w a2 m.length (lf m)) (ht : Tab w) :
    Calls Tryd.prog 24 #[.int .i64 f, .slice a l.length cap, .slice a2 m.length cap2] w (OwnL w (mSubPoly f l m)) := by
  by_cases hk : PolOk f l ∧ PolOk f m
  · rw [show mSubPoly f l m = addL f l (scaleL f m (-1)) by unfold mSubPoly; rw [if_pos hk]]
    exact iSubPoly_on f a l cap a2 m cap2 w hn hn2 hs hs2 ht hk.1 hk.2
  · exact (iSubPoly_off f a l cap a2 m cap2 w hn hn2 hs hs2 ht hk).mono fun _ _ h => h.own (by unfold mSubPoly; rw [if_neg hk])
set_option maxRecDepth 100000 in
set_option maxHeartbeats 1600000 in
theorem iScalePoly (f : Int) (a : Option Addr) (l : List Int) (cap : Nat) (c : Int) (w : World) (hn : l.length ≤ 1048576) (hs : Src w a l.length (lf l)) (ht : Tab w) :
    Calls Tryd.prog 26 #[.int .i64 f, .slice a l.length cap, .int .i64 c] w (OwnL w (mScalePoly f l c)) := by
  have R1 := iPolyOk f a l cap w hn hs ht
  have HS := Lib.hid hs
  clear hs
  by_cases hk : PolOk f l
  · rw [pok_iff.2 hk] at R1
    have h0 := hk.1.1
    have h8 := hk.1.2
    have HK := Lib.hid hk
    rw [show mScalePoly f l c = scaleL f l c by unfold mScalePoly; rw [if_pos hk]]
    have hp := P_bd h0 h8
    have cb := RS_bd (x := c) (m := P f) (by omega)
    have HE : Hid (scaleL f l (RS c (P f)) = scaleL f l c) := Lib.hid (by
      unfold scaleL
      exact cutL_congr fun j _ => by unfold RS; exact emod_mul_congr rfl (by simp))
    clear hk
    go_enter Tryd.func26, Tryd.ntmps26
    go_wp2_with fail
    refine R1.mono ?_
    rintro e w' ⟨rfl, rfl⟩
    go_wp2_with fail
    refine (reduce_c f c w ht h0 h8).mono ?_
    rintro e w' ⟨rfl, rfl⟩
    go_wp2_with fail
    refine (scaled_c f (RS c (P f)) a l cap w ht h0 h8 hn cb.1 cb.2 HK.out.2.2 HS.out).mono ?_
    rw [HE.out]
    rintro e w2 ⟨g, rfl, hg, hO, hB⟩
    have HO := Lib.hid hO
    clear hO
    go_wp2
    go_ret
    exact OwnG.finish hg HO.out hB
  · rw [pok_not.2 hk] at R1
    rw [show mScalePoly f l c = [] by unfold mScalePoly; rw [if_neg hk]]
    clear hk
    go_enter Tryd.func26, Tryd.ntmps26
    go_wp2_with fail
    refine R1.mono ?_
    rintro e w' ⟨rfl, rfl⟩
    go_wp2
    go_ret
    exact ⟨none, 0, rfl, OwnA.nil rfl, Below.refl _ _⟩
set_option maxRecDepth 100000 in
set_option maxHeartbeats 1600000 in
theorem iDerivative (f : Int) (a : Option Addr) (l : List Int) (cap : Nat) (w : World) (hn : l.length ≤ 1048576) (hs : Src w a l.length (lf l)) (ht : Tab w) :
    Calls Tryd.prog 28 #[.int .i64 f, .slice a l.length cap] w (OwnL w (mDerivative f l)) := by
  have R1 := iPolyOk f a l cap w hn hs ht
  have HS := Lib.hid hs
  clear hs
  by_cases hk : PolOk f l
  · rw [pok_iff.2 hk] at R1
    have h0 := hk.1.1
    have h8 := hk.1.2
    have HK := Lib.hid hk
    rw [show mDerivative f l = derL f l by unfold mDerivative; rw [if_pos hk]]
    clear hk
    go_enter Tryd.func28, Tryd.ntmps28
    go_wp2_with fail
    refine R1.mono ?_
    rintro e w' ⟨rfl, rfl⟩
    go_wp2_with fail
    refine (der_c f a l cap w ht h0 h8 hn HK.out.2.2 HS.out).mono ?_
    rintro e w2 ⟨g, rfl, hg, hO, hB⟩
    have HO := Lib.hid hO
    clear hO
    go_wp2
    go_ret
    exact OwnG.finish hg HO.out hB
  · rw [pok_not.2 hk] at R1
    rw [show mDerivative f l = [] by unfold mDerivative; rw [if_neg hk]]
    clear hk
    go_enter Tryd.func28, Tryd.ntmps28
    go_wp2_with fail
    refine R1.mono ?_
    rintro e w' ⟨rfl, rfl⟩
    go_wp2
    go_ret
    exact ⟨none, 0, rfl, OwnA.nil rfl, Below.refl _ _⟩
theorem iDegree (f : Int) (a : Option Addr) (l : List Int) (cap : Nat) (w : World) (hn : l.length ≤ 1048576) (hs : Src w a l.length (lf l)) (ht : Tab w) : Calls Tryd.prog 20 #[.int .i64 f, .slice a l.length cap] w (IntP w (mDegree f l)) := by
  have H1 := iPolyOk f a l cap w hn hs ht
  by_cases hk : PolOk f l
  · rw [pok_iff.2 hk] at H1
    have HX : Hid (mDegree f l = (l.length : Int) - 1) := Lib.hid (by unfold mDegree; rw [if_pos hk])
    rw [HX.out]
    clear hk
    go_enter Tryd.func20, Tryd.ntmps20
    go_wp2_with fail
    refine H1.mono ?_
    rintro e w' ⟨rfl, rfl⟩
    go_wp2
    go_ret
    exact ⟨rfl, Below.refl _ _⟩
  · rw [pok_not.2 hk] at H1
    have HX : Hid (mDegree f l = -2) := Lib.hid (by unfold mDegree; rw [if_neg hk])
    rw [HX.out]
    clear hk
    go_enter Tryd.func20, Tryd.ntmps20
    go_wp2_with fail
    refine H1.mono ?_
    rintro e w' ⟨rfl, rfl⟩
    go_wp2
    go_ret
    exact ⟨rfl, Below.refl _ _⟩
set_option maxRecDepth 100000 in
set_option maxHeartbeats 1600000 in
theorem iTrim_some (f : Int) (b off n cap : Nat) (F : Nat → Int) (w : World) (ht : Tab w) (h0 : 0 ≤ f) (h8 : f ≤ 8) (hn : n ≤ 400) (hlt : b < w.heap.size) (hc : ∀ j, j < n → w.cell? ⟨b, off + j, none⟩ = some (.int .i64 (F j))) :
    Calls Tryd.prog 16 #[.int .i64 f, .slice (some ⟨b, off, none⟩) n cap] w (OwnG w (cutL n (fun j => RS (F j) (P f)))) := by
  have HC := Lib.hid hc
  clear hc
  have hmk := made_n n (by omega)
  have hd1 : decide ((400 : Int) < n) = false := by simp; omega
  go_enter Tryd.func16, Tryd.ntmps16
  go_wp2_with fail
  refine (known_yes f w h0 h8).mono ?_
  rintro e w' ⟨rfl, rfl⟩
  go_wp2_with fail
  clear hmk
  go_loopw [7, 8, 23] (fun _ _ i wr => ∃ k : Nat, i = .int .i64 k ∧ k ≤ n ∧ Own wr w.heap.size n (fun j => if j < k then RS (F j) (P f) else 0) ∧ Below w.heap.size w wr) (fun _ _ i _ => n - (intOf i).toNat)
  case atStart =>
    refine ⟨0, rfl, Nat.zero_le _, ?_, (Below.refl _ _).alloc (Nat.le_refl _) _⟩
    exact (World.rowIs_made w (.int .i64 0) n 3).congr fun j _ => by simp
  case round =>
    obtain ⟨k, rfl, hk, ho, hb⟩ := hrel
    by_cases h1 : k < n
    · have d1 : wr.cell? ⟨b, off + k, none⟩ = some (.int .i64 (F k)) := (hb.cell (p := ⟨b, off + k, none⟩) hlt).trans (HC.out k h1)
      have c2 := World.rowIs.cell ho h1
      have c3 := World.rowIs.frozen ho k
      have HT := Lib.hid (ht.below hb)
      have HS := Lib.hid (own_step (F := fun j => RS (F j) (P f)) ho)
      go_wp2_with fail
      refine (reduce_c f (F k) wr HT.out h0 h8).mono ?_
      rintro e w' ⟨rfl, rfl⟩
      go_wp2
      go_roundw
      case rel => exact ⟨k + 1, by go_num, by omega, HS.out, hb.setCell (Nat.le_refl _) _⟩
      case measure => simp [intOf]; omega
    · have hd : decide (k < n) = false := by simpa using h1
      obtain rfl : k = n := by omega
      go_wp2_with fail
      refine (poly_own (G := fun j => RS (F j) (P f)) (by omega) ho (fun j hj => by simp [hj]) hb).mono ?_
      rintro e w2 ⟨g, rfl, hg, hO, hB⟩
      have HO := Lib.hid hO
      clear hO ho
      go_wp2
      go_ret
      exact ⟨g, rfl, hg, HO.out, hB⟩
theorem iTrim_none (f : Int) (a : Option Addr) (cap : Nat) (F : Nat → Int) (w : World) (h0 : 0 ≤ f) (h8 : f ≤ 8) : Calls Tryd.prog 16 #[.int .i64 f, .slice a 0 cap] w (OwnG w (cutL 0 F)) := by
  have hmk := made0
  go_enter Tryd.func16, Tryd.ntmps16
  go_wp2_with fail
  refine (known_yes f w h0 h8).mono ?_
  rintro e w' ⟨rfl, rfl⟩
  go_wp2_with fail
  refine wp_loop_rounds 1 ?_
  rw [rounds_succ]
  clear hmk
  go_wp2_with fail
  refine (poly_own (n := 0) (G := F) (by omega) (World.rowIs_made w (.int .i64 0) 0 3) (fun j hj => by omega) ((Below.refl _ _).alloc (Nat.le_refl _) _)).mono ?_
  rintro e w2 ⟨g, rfl, hg, hO, hB⟩
  have HO := Lib.hid hO
  clear hO
  go_wp2
  go_ret
  exact ⟨g, rfl, hg, HO.out, hB⟩
theorem iTrim_off (f : Int) (a : Option Addr) (n cap : Nat) (w : World) (hk : ¬ ((0 ≤ f ∧ f ≤ 8) ∧ n ≤ 400)) (hn : n ≤ 1048576) : Calls Tryd.prog 16 #[.int .i64 f, .slice a n cap] w (NilP w) := by
  by_cases h : 0 ≤ f ∧ f ≤ 8
  · have hd : decide ((400 : Int) < n) = true := by simp; omega
    go_enter Tryd.func16, Tryd.ntmps16
    go_wp2_with fail
    refine (known_yes f w h.1 h.2).mono ?_
    rintro e w' ⟨rfl, rfl⟩
    go_wp2
    go_ret
    exact ⟨rfl, Below.refl _ _⟩
  · go_enter Tryd.func16, Tryd.ntmps16
    go_wp2_with fail
    refine (known_no f w (by omega)).mono ?_
    rintro e w' ⟨rfl, rfl⟩
    go_wp2
    go_ret
    exact ⟨rfl, Below.refl _ _⟩
theorem iTrim (f : Int) (a : Option Addr) (l : List Int) (cap : Nat) (w : World) (hn : l.length ≤ 1048576) (hs : Src w a l.length (lf l)) (ht : Tab w) : Calls Tryd.prog 16 #[.int .i64 f, .slice a l.length cap] w (OwnL w (mTrim f l)) := by
  by_cases hk : (0 ≤ f ∧ f ≤ 8) ∧ l.length ≤ 400
  · rw [show mTrim f l = cutL l.length (fun j => RS (lf l j) (P f)) by unfold mTrim; rw [if_pos hk]; rfl]
    rcases hs with hz | ⟨b, off, rfl, hlt, hc⟩
    · rw [hz]
      exact (iTrim_none f a cap _ w hk.1.1 hk.1.2).mono fun _ _ h => h.own
    · exact (iTrim_some f b off l.length cap (lf l) w ht hk.1.1 hk.1.2 hk.2 hlt hc).mono fun _ _ h => h.own
  · exact (iTrim_off f a l.length cap w hk hn).mono fun _ _ h => h.own (by unfold mTrim; rw [if_neg hk])
end Go.Proofs.YthepiainflbglaaDoor
