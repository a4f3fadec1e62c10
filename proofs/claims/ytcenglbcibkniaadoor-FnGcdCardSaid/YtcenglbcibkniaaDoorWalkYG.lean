/-
  The program's functions on polynomials that answer lists.
-/
import Derived.Test.YtcenglbcibkniaaDoorWalkYD
import Derived.Test.YtcenglbcibkniaaDoorWalkYF
namespace Go.Proofs.YtcenglbcibkniaaDoor
open Go.RowKit
theorem OwnG.finish {w w' : World} {l : List Int} {g : Nat} (hg : w.heap.size ≤ g) (ho : Own w' g l.length (lf l)) (hb : Below w.heap.size w w') : OwnL w l (.returned (.slice (some ⟨g, 0, none⟩) l.length l.length)) w' := OwnG.own ⟨g, rfl, hg, ho, hb⟩
theorem iAddPoly_off (f : Int) (a : Option Addr) (l : List Int) (cap : Nat) (a2 : Option Addr) (m : List Int) (cap2 : Nat) (w : World) (hn : l.length ≤ 1048576) (hn2 : m.length ≤ 1048576) (hs : Src w a l.length (lf l)) (hs2 : Src w a2 m.length (lf m)) (ht : Tab w) (hk : ¬ (PolOk f l ∧ PolOk f m)) :
    Calls Tryd.prog 14 #[.int .i64 f, .slice a l.length cap, .slice a2 m.length cap2] w (NilP w) := by
  have HS := Lib.hid hs
  have HS2 := Lib.hid hs2
  have BA : Hid (∀ o, Below w.heap.size w (w.alloc o)) := Lib.hid fun o => (Below.refl _ _).alloc (Nat.le_refl _) o
  clear hs hs2
  have HB : Hid ((mPolyOk f l && mPolyOk f m) = false) := Lib.hid (by
    by_cases h1 : PolOk f l
    · rw [pok_not.2 fun h => hk ⟨h1, h⟩, Bool.and_false]
    · rw [pok_not.2 h1, Bool.false_and])
  clear hk
  go_enter Tryd.func14, Tryd.ntmps14
  go_wp2_with fail
  refine (arePolys_c f w.heap.size a a2 l m cap cap2 _ hn hn2 (HS.out.keep (BA.out _)) (HS2.out.keep (BA.out _)) (ht.below (BA.out _)) (cell_two _ _ _ _).1 (cell_two _ _ _ _).2).mono ?_
  rintro e w' ⟨rfl, rfl⟩
  rw [HB.out]
  go_wp2
  go_ret
  exact ⟨rfl, BA.out _⟩
set_option maxRecDepth 100000 in
set_option maxHeartbeats 1600000 in
theorem iAddPoly_on (f : Int) (a : Option Addr) (l : List Int) (cap : Nat) (a2 : Option Addr) (m : List Int) (cap2 : Nat) (w : World) (hn : l.length ≤ 1048576) (hn2 : m.length ≤ 1048576) (hs : Src w a l.length (lf l)) (hs2 : Src w a2 m.length (lf m)) (ht : Tab w) (hl : PolOk f l) (hm : PolOk f m) :
    Calls Tryd.prog 14 #[.int .i64 f, .slice a l.length cap, .slice a2 m.length cap2] w (OwnL w (addL f l m)) := by
  have HS := Lib.hid hs
  have HS2 := Lib.hid hs2
  have BA : Hid (∀ o, Below w.heap.size w (w.alloc o)) := Lib.hid fun o => (Below.refl _ _).alloc (Nat.le_refl _) o
  clear hs hs2
  have HB : Hid ((mPolyOk f l && mPolyOk f m) = true) := Lib.hid (by rw [pok_iff.2 hl, pok_iff.2 hm]; rfl)
  have h0 := hl.1.1
  have h8 := hl.1.2
  have HL := Lib.hid hl
  have HM := Lib.hid hm
  clear hl hm
  go_enter Tryd.func14, Tryd.ntmps14
  go_wp2_with fail
  refine (arePolys_c f w.heap.size a a2 l m cap cap2 _ hn hn2 (HS.out.keep (BA.out _)) (HS2.out.keep (BA.out _)) (ht.below (BA.out _)) (cell_two _ _ _ _).1 (cell_two _ _ _ _).2).mono ?_
  rintro e w' ⟨rfl, rfl⟩
  rw [HB.out]
  go_wp2_with fail
  refine (sum_c f a a2 l m cap cap2 _ (ht.below (BA.out _)) h0 h8 hn hn2 HL.out.2.2 HM.out.2.2 (HS.out.keep (BA.out _)) (HS2.out.keep (BA.out _))).mono ?_
  rintro e w2 ho
  obtain ⟨g, rfl, hg, hO, hB⟩ := ho.up (BA.out _)
  have HO := Lib.hid hO
  clear hO ho
  go_wp2
  go_ret
  exact OwnG.finish hg HO.out hB
theorem iAddPoly (f : Int) (a : Option Addr) (l : List Int) (cap : Nat) (a2 : Option Addr) (m : List Int) (cap2 : Nat) (w : World) (hn : l.length ≤ 1048576) (hn2 : m.length ≤ 1048576) (hs : Src w a l.length (lf l)) (hs2 : Src w a2 m.length (lf m)) (ht : Tab w) :
    Calls Tryd.prog 14 #[.int .i64 f, .slice a l.length cap, .slice a2 m.length cap2] w (OwnL w (mAddPoly f l m)) := by
  by_cases hk : PolOk f l ∧ PolOk f m
  · rw [show mAddPoly f l m = addL f l m by unfold mAddPoly; rw [if_pos hk]]
    exact iAddPoly_on f a l cap a2 m cap2 w hn hn2 hs hs2 ht hk.1 hk.2
  · exact (iAddPoly_off f a l cap a2 m cap2 w hn hn2 hs hs2 ht hk).mono fun _ _ h => h.own (by unfold mAddPoly; rw [if_neg hk])
end Go.Proofs.YtcenglbcibkniaaDoor
