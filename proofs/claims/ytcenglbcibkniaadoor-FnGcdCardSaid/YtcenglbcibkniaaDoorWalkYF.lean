/-
  The specification's functions on polynomials that make lists: Trim, AddPoly, ScalePoly, SubPoly, Derivative, Degree.
-/
import Derived.Test.YtcenglbcibkniaaDoorWalkYC
namespace Go.Proofs.YtcenglbcibkniaaDoor
open Go.RowKit
theorem mReduce_on {f : Int} (h0 : 0 ≤ f) (h8 : f ≤ 8) (x : Int) : mReduce f x = RS x (P f) := by unfold mReduce; rw [if_pos ⟨h0, h8⟩]
theorem mAdd_on {f : Int} (h0 : 0 ≤ f) (h8 : f ≤ 8) (x y : Int) : mAdd f x y = RS (x + y) (P f) := by unfold mAdd; rw [if_pos ⟨h0, h8⟩]
theorem mMul_on {f : Int} (h0 : 0 ≤ f) (h8 : f ≤ 8) (x y : Int) : mMul f x y = RS (x * y) (P f) := by unfold mMul; rw [if_pos ⟨h0, h8⟩]
theorem mSub_on {f : Int} (h0 : 0 ≤ f) (h8 : f ≤ 8) (x y : Int) : mSub f x y = RS (x - y) (P f) := by unfold mSub; rw [if_pos ⟨h0, h8⟩]
def NilP (w : World) (e : Ending) (w' : World) : Prop := e = .returned (.slice none 0 0) ∧ Below w.heap.size w w'
theorem NilP.list {w w' : World} {l : List Int} {e : Ending} (hl : l = []) (h : NilP w e w') : ListL w l e w' := by
  subst hl
  obtain ⟨rfl, hb⟩ := h
  exact ⟨none, 0, rfl, .inl rfl, hb⟩
theorem NilP.own {w w' : World} {l : List Int} {e : Ending} (hl : l = []) (h : NilP w e w') : OwnL w l e w' := by
  subst hl
  obtain ⟨rfl, hb⟩ := h
  exact ⟨none, 0, rfl, OwnA.nil rfl, hb⟩
/-- A list of no cells, cut. -/
theorem cut_new {u : World} (w : World) (hb : Below u.heap.size u w) : Calls Tryd.prog 54 #[.slice (some ⟨w.heap.size, 0, none⟩) 0 0] (w.alloc (.cells #[] 3)) (OwnsL u []) :=
  (cut_own (base := w.heap.size) (n := 0) (F := fun _ => 0) (by omega) (own_empty w (fun _ => 0))).mono fun _ _ h => h.up (hb.alloc hb.size _) (Nat.le_trans hb.size (by simp))
theorem at_some (b off n cap : Nat) (F : Nat → Int) (i : Nat) (w : World) (hi : i < n) (hn : n ≤ 1048576) (hc : w.cell? ⟨b, off + i, none⟩ = some (.int .i64 (F i))) :
    Calls Tryd.prog 72 #[.slice (some ⟨b, off, none⟩) n cap, .int .i64 i] w fun e w' => e = .returned (.int .i64 (F i)) ∧ w = w' := by
  have hd : decide ((i : Int) < n) = true := by simp; omega
  go_enter Tryd.func72, Tryd.ntmps72
  go_wp2
  go_ret
  exact ⟨rfl, rfl⟩
theorem at_none (a : Option Addr) (n cap : Nat) (i : Nat) (w : World) (hi : n ≤ i) : Calls Tryd.prog 72 #[.slice a n cap, .int .i64 i] w fun e w' => e = .returned (.int .i64 0) ∧ w = w' := by
  have hd : decide ((i : Int) < n) = false := by simp; omega
  go_enter Tryd.func72, Tryd.ntmps72
  go_wp2
  go_ret
  exact ⟨rfl, rfl⟩
theorem at_c (a : Option Addr) (l : List Int) (cap i : Nat) (w : World) (hn : l.length ≤ 1048576) (hs : Src w a l.length (lf l)) : Calls Tryd.prog 72 #[.slice a l.length cap, .int .i64 i] w fun e w' => e = .returned (.int .i64 (lf l i)) ∧ w = w' := by
  by_cases hi : i < l.length
  · rcases hs with hz | ⟨b, off, rfl, hlt, hc⟩
    · omega
    · exact at_some b off l.length cap (lf l) i w hi hn (hc i hi)
  · rw [lf_out l (by omega)]
    exact at_none a l.length cap i w (by omega)
set_option maxRecDepth 100000 in
set_option maxHeartbeats 1600000 in
theorem sAddPoly_on (f : Int) (a a2 : Option Addr) (l m : List Int) (cap cap2 : Nat) (w : World) (hn : l.length ≤ 1048576) (hn2 : m.length ≤ 1048576) (hs : Src w a l.length (lf l)) (hs2 : Src w a2 m.length (lf m)) (hl : PolOk f l) (hm : PolOk f m) :
    Calls Tryd.prog 53 #[.int .i64 f, .slice a l.length cap, .slice a2 m.length cap2] w (OwnsL w (addL f l m)) := by
  have H1 := fun w hs => sPolyOk f a l cap w hn hs
  have H2 := fun w hs => sPolyOk f a2 m cap2 w hn2 hs
  rw [pok_iff.2 hl] at H1
  rw [pok_iff.2 hm] at H2
  obtain ⟨⟨h0, h8⟩, l4, _⟩ := hl
  obtain ⟨_, m4, _⟩ := hm
  have HS := Lib.hid hs
  have HS2 := Lib.hid hs2
  have HA1 := fun i w hs => at_c a l cap i w hn hs
  have HA2 := fun i w hs => at_c a2 m cap2 i w hn2 hs
  have HX : Hid (addL f l m = cutL (max l.length m.length) (fun j => RS (lf l j + lf m j) (P f))) := Lib.hid rfl
  rw [HX.out]
  clear hs hs2 HX
  generalize lf l = A at *
  generalize lf m = B at *
  generalize l.length = n at *
  generalize m.length = q at *
  obtain ⟨N, hN⟩ : ∃ N, max n q = N := ⟨_, rfl⟩
  rw [hN]
  obtain ⟨i0, hi, hz0, hz1, hz2⟩ := info_parts info3
  have HI := Lib.hid hi
  have HZ0 := Lib.hid hz0
  have HZ1 := Lib.hid hz1
  have HZ2 := Lib.hid hz2
  clear hi hz0 hz1 hz2
  go_enter Tryd.func53, Tryd.ntmps53
  go_wp2_with fail
  refine (H1 _ (HS.out.keep ((Below.refl _ _).alloc (Nat.le_refl _) _))).mono ?_
  rintro e w' ⟨rfl, rfl⟩
  go_wp2_with fail
  refine (H2 _ (HS2.out.keep ((Below.refl _ _).alloc (Nat.le_refl _) _))).mono ?_
  rintro e w' ⟨rfl, rfl⟩
  go_wp2_with fail
  go_loopw [7, 8] (fun v i wr => ∃ k : Nat, i = .int .i64 k ∧ k ≤ N ∧ wr.ownsRow w.heap.size 3 1 v k (xsF (fun j => RS (A j + B j) (P f)) k) ∧ Below w.heap.size w wr) (fun _ i _ => N - (intOf i).toNat)
  case atStart => exact ⟨0, rfl, Nat.zero_le _, own_empty w _, (Below.refl _ _).alloc (Nat.le_refl _) _⟩
  case round =>
    obtain ⟨k, rfl, hk, hown, hnx⟩ := hrel
    have HM := Lib.hid (mAdd_on h0 h8 (A k) (B k))
    have R1 := Lib.hid (HA1 k wr (HS.out.keep hnx))
    have R2 := Lib.hid (HA2 k wr (HS2.out.keep hnx))
    by_cases h1 : k < n
    · have hd1 : decide ((k : Int) < n) = true := by simp; omega
      go_wp2_with fail
      refine R1.out.mono ?_
      rintro e w' ⟨rfl, rfl⟩
      go_wp2_with fail
      refine R2.out.mono ?_
      rintro e w' ⟨rfl, rfl⟩
      go_wp2_with fail
      refine (sAdd f (A k) (B k) wr).mono ?_
      rintro e w' ⟨rfl, rfl⟩
      rw [HM.out]
      have hs := hnx.size
      go_wp2_with (at_builtin; refine wpList_append_own _ rfl _ _ 24 rfl w.heap.size 3 i0 (.int .i64 0) 1 8 Tryd.underlying24 HI.out HZ0.out HZ1.out HZ2.out rfl (by decide) _ _ _ rfl (hown.alloc _) ⟨wr.heap.size, 0, none⟩ 1 1 [.int .i64 (RS (A k + B k) (P f))] rfl rfl ?c1 ?c2 ?c3 ?c4 ?c5 ?_)
      case c1 => exact cell_one_new _ _ _
      case c2 => intro u hu; simp at hu; subst hu; rfl
      case c3 => unfold maxLen; omega
      case c4 => omega
      case c5 => simp; omega
      intro v' w1 hown' hgrow _
      have hbel : Below w.heap.size w w1 := (hnx.alloc hs _).grown hgrow (by simp; omega) (own_ge hown)
      rw [xsF_succ (fun j => RS (A j + B j) (P f))] at hown'
      clear hgrow hown
      go_wp2
      go_roundw
      case rel => exact ⟨k + 1, by go_num, by omega, hown', hbel⟩
      case measure => simp [intOf]; omega
    · have hd1 : decide ((k : Int) < n) = false := by simp; omega
      by_cases h2 : k < q
      · have hd2 : decide ((k : Int) < q) = true := by simp; omega
        go_wp2_with fail
        refine R1.out.mono ?_
        rintro e w' ⟨rfl, rfl⟩
        go_wp2_with fail
        refine R2.out.mono ?_
        rintro e w' ⟨rfl, rfl⟩
        go_wp2_with fail
        refine (sAdd f (A k) (B k) wr).mono ?_
        rintro e w' ⟨rfl, rfl⟩
        rw [HM.out]
        have hs := hnx.size
        go_wp2_with (at_builtin; refine wpList_append_own _ rfl _ _ 24 rfl w.heap.size 3 i0 (.int .i64 0) 1 8 Tryd.underlying24 HI.out HZ0.out HZ1.out HZ2.out rfl (by decide) _ _ _ rfl (hown.alloc _) ⟨wr.heap.size, 0, none⟩ 1 1 [.int .i64 (RS (A k + B k) (P f))] rfl rfl ?d1 ?d2 ?d3 ?d4 ?d5 ?_)
        case d1 => exact cell_one_new _ _ _
        case d2 => intro u hu; simp at hu; subst hu; rfl
        case d3 => unfold maxLen; omega
        case d4 => omega
        case d5 => simp; omega
        intro v' w1 hown' hgrow _
        have hbel : Below w.heap.size w w1 := (hnx.alloc hs _).grown hgrow (by simp; omega) (own_ge hown)
        rw [xsF_succ (fun j => RS (A j + B j) (P f))] at hown'
        clear hgrow hown
        go_wp2
        go_roundw
        case rel => exact ⟨k + 1, by go_num, by omega, hown', hbel⟩
        case measure => simp [intOf]; omega
      · have hd2 : decide ((k : Int) < q) = false := by simp; omega
        obtain rfl : k = N := by omega
        have HO := Lib.hid (cut_own (by omega) hown)
        clear hown
        go_wp2_with fail
        refine HO.out.mono ?_
        rintro e w2 ho
        obtain ⟨v2, rfl, ho2, hb2⟩ := ho.up hnx hnx.size
        have HO2 := Lib.hid ho2
        clear ho ho2 HO
        go_wp2
        go_ret
        exact ⟨_, rfl, HO2.out, hb2⟩
theorem sPolys_off (f : Int) (a a2 : Option Addr) (l m : List Int) (cap cap2 : Nat) (w : World) (hn : l.length ≤ 1048576) (hn2 : m.length ≤ 1048576) (hs : Src w a l.length (lf l)) (hs2 : Src w a2 m.length (lf m)) (hk : ¬ (PolOk f l ∧ PolOk f m)) :
    Calls Tryd.prog 53 #[.int .i64 f, .slice a l.length cap, .slice a2 m.length cap2] w (NilP w) := by
  have H1 := fun w hs => sPolyOk f a l cap w hn hs
  have H2 := fun w hs => sPolyOk f a2 m cap2 w hn2 hs
  have HS := Lib.hid hs
  have HS2 := Lib.hid hs2
  clear hs hs2
  by_cases h1 : PolOk f l
  · have h2 : ¬ PolOk f m := fun h => hk ⟨h1, h⟩
    rw [pok_iff.2 h1] at H1
    rw [pok_not.2 h2] at H2
    clear hk h1 h2
    go_enter Tryd.func53, Tryd.ntmps53
    go_wp2_with fail
    refine (H1 _ (HS.out.keep ((Below.refl _ _).alloc (Nat.le_refl _) _))).mono ?_
    rintro e w' ⟨rfl, rfl⟩
    go_wp2_with fail
    refine (H2 _ (HS2.out.keep ((Below.refl _ _).alloc (Nat.le_refl _) _))).mono ?_
    rintro e w' ⟨rfl, rfl⟩
    go_wp2
    go_ret
    exact ⟨rfl, (Below.refl _ _).alloc (Nat.le_refl _) _⟩
  · rw [pok_not.2 h1] at H1
    clear hk h1
    go_enter Tryd.func53, Tryd.ntmps53
    go_wp2_with fail
    refine (H1 _ (HS.out.keep ((Below.refl _ _).alloc (Nat.le_refl _) _))).mono ?_
    rintro e w' ⟨rfl, rfl⟩
    go_wp2
    go_ret
    exact ⟨rfl, (Below.refl _ _).alloc (Nat.le_refl _) _⟩
theorem sAddPoly (f : Int) (a : Option Addr) (l : List Int) (cap : Nat) (a2 : Option Addr) (m : List Int) (cap2 : Nat) (w : World) (hn : l.length ≤ 1048576) (hn2 : m.length ≤ 1048576) (hs : Src w a l.length (lf l)) (hs2 : Src w a2 m.length (lf m)) :
    Calls Tryd.prog 53 #[.int .i64 f, .slice a l.length cap, .slice a2 m.length cap2] w (ListL w (mAddPoly f l m)) := by
  by_cases hk : PolOk f l ∧ PolOk f m
  · rw [show mAddPoly f l m = addL f l m by unfold mAddPoly; rw [if_pos hk]]
    exact (sAddPoly_on f a a2 l m cap cap2 w hn hn2 hs hs2 hk.1 hk.2).mono fun _ _ h => h.list
  · exact (sPolys_off f a a2 l m cap cap2 w hn hn2 hs hs2 hk).mono fun _ _ h => h.list (by unfold mAddPoly; rw [if_neg hk])
set_option maxRecDepth 100000 in
set_option maxHeartbeats 1600000 in
theorem sScale_on (f c : Int) (a : Option Addr) (l : List Int) (cap : Nat) (w : World) (hn : l.length ≤ 1048576) (hs : Src w a l.length (lf l)) (hl : PolOk f l) :
    Calls Tryd.prog 39 #[.int .i64 f, .slice a l.length cap, .int .i64 c] w (OwnsL w (scaleL f l c)) := by
  have H1 := fun w hs => sPolyOk f a l cap w hn hs
  rw [pok_iff.2 hl] at H1
  obtain ⟨⟨h0, h8⟩, l4, _⟩ := hl
  have HS := Lib.hid hs
  have HX : Hid (scaleL f l c = cutL l.length (fun j => RS (lf l j * c) (P f))) := Lib.hid rfl
  rw [HX.out]
  clear HX
  rcases hs with hz | ⟨b, off, rfl, hlt, hc⟩
  · have HO := Lib.hid (cut_new w (Below.refl _ _))
    rw [hz] at H1 HS ⊢
    rw [show cutL 0 (fun j => RS (lf l j * c) (P f)) = [] from rfl]
    go_enter Tryd.func39, Tryd.ntmps39
    go_wp2_with fail
    refine (H1 _ (HS.out.keep ((Below.refl _ _).alloc (Nat.le_refl _) _))).mono ?_
    rintro e w' ⟨rfl, rfl⟩
    go_wp2_with fail
    refine wp_loop_rounds 1 ?_
    rw [rounds_succ]
    go_wp2_with fail
    refine HO.out.mono ?_
    rintro e w2 ⟨v2, rfl, ho2, hb2⟩
    have HO2 := Lib.hid ho2
    clear ho2 HO
    go_wp2
    go_ret
    exact ⟨_, rfl, HO2.out, hb2⟩
  · have HC := Lib.hid hc
    clear hc
    generalize lf l = F at *
    generalize l.length = n at *
    obtain ⟨i0, hi, hz0, hz1, hz2⟩ := info_parts info3
    have HI := Lib.hid hi
    have HZ0 := Lib.hid hz0
    have HZ1 := Lib.hid hz1
    have HZ2 := Lib.hid hz2
    clear hi hz0 hz1 hz2
    go_enter Tryd.func39, Tryd.ntmps39
    go_wp2_with fail
    refine (H1 _ (HS.out.keep ((Below.refl _ _).alloc (Nat.le_refl _) _))).mono ?_
    rintro e w' ⟨rfl, rfl⟩
    go_wp2_with fail
    go_loopw [7, 8] (fun v i wr => ∃ k : Nat, i = .int .i64 k ∧ k ≤ n ∧ wr.ownsRow w.heap.size 3 1 v k (xsF (fun j => RS (F j * c) (P f)) k) ∧ Below w.heap.size w wr) (fun _ i _ => n - (intOf i).toNat)
    case atStart => exact ⟨0, rfl, Nat.zero_le _, own_empty w _, (Below.refl _ _).alloc (Nat.le_refl _) _⟩
    case round =>
      obtain ⟨k, rfl, hk, hown, hnx⟩ := hrel
      by_cases h1 : k < n
      · have hc2 : wr.cell? ⟨b, off + k, none⟩ = some (.int .i64 (F k)) := (hnx.cell (p := ⟨b, off + k, none⟩) hlt).trans (HC.out k h1)
        have HM := Lib.hid (mMul_on h0 h8 (F k) c)
        go_wp2_with fail
        refine (sMul f (F k) c wr).mono ?_
        rintro e w' ⟨rfl, rfl⟩
        rw [HM.out]
        have hs := hnx.size
        go_wp2_with (at_builtin; refine wpList_append_own _ rfl _ _ 24 rfl w.heap.size 3 i0 (.int .i64 0) 1 8 Tryd.underlying24 HI.out HZ0.out HZ1.out HZ2.out rfl (by decide) _ _ _ rfl (hown.alloc _) ⟨wr.heap.size, 0, none⟩ 1 1 [.int .i64 (RS (F k * c) (P f))] rfl rfl ?c1 ?c2 ?c3 ?c4 ?c5 ?_)
        case c1 => exact cell_one_new _ _ _
        case c2 => intro u hu; simp at hu; subst hu; rfl
        case c3 => unfold maxLen; omega
        case c4 => omega
        case c5 => simp; omega
        intro v' w1 hown' hgrow _
        have hbel : Below w.heap.size w w1 := (hnx.alloc hs _).grown hgrow (by simp; omega) (own_ge hown)
        rw [xsF_succ (fun j => RS (F j * c) (P f))] at hown'
        clear hgrow hown
        go_wp2
        go_roundw
        case rel => exact ⟨k + 1, by go_num, by omega, hown', hbel⟩
        case measure => simp [intOf]; omega
      · have hd : decide (k < n) = false := by simpa using h1
        obtain rfl : k = n := by omega
        have HO := Lib.hid (cut_own (by omega) hown)
        clear hown
        go_wp2_with fail
        refine HO.out.mono ?_
        rintro e w2 ho
        obtain ⟨v2, rfl, ho2, hb2⟩ := ho.up hnx hnx.size
        have HO2 := Lib.hid ho2
        clear ho ho2 HO
        go_wp2
        go_ret
        exact ⟨_, rfl, HO2.out, hb2⟩
theorem sScale_off (f c : Int) (a : Option Addr) (l : List Int) (cap : Nat) (w : World) (hn : l.length ≤ 1048576) (hs : Src w a l.length (lf l)) (hk : ¬ PolOk f l) :
    Calls Tryd.prog 39 #[.int .i64 f, .slice a l.length cap, .int .i64 c] w (NilP w) := by
  have H1 := fun w hs => sPolyOk f a l cap w hn hs
  rw [pok_not.2 hk] at H1
  have HS := Lib.hid hs
  clear hs hk
  go_enter Tryd.func39, Tryd.ntmps39
  go_wp2_with fail
  refine (H1 _ (HS.out.keep ((Below.refl _ _).alloc (Nat.le_refl _) _))).mono ?_
  rintro e w' ⟨rfl, rfl⟩
  go_wp2
  go_ret
  exact ⟨rfl, (Below.refl _ _).alloc (Nat.le_refl _) _⟩
theorem sScalePoly (f : Int) (a : Option Addr) (l : List Int) (cap : Nat) (c : Int) (w : World) (hn : l.length ≤ 1048576) (hs : Src w a l.length (lf l)) :
    Calls Tryd.prog 39 #[.int .i64 f, .slice a l.length cap, .int .i64 c] w (ListL w (mScalePoly f l c)) := by
  by_cases hk : PolOk f l
  · rw [show mScalePoly f l c = scaleL f l c by unfold mScalePoly; rw [if_pos hk]]
    exact (sScale_on f c a l cap w hn hs hk).mono fun _ _ h => h.list
  · exact (sScale_off f c a l cap w hn hs hk).mono fun _ _ h => h.list (by unfold mScalePoly; rw [if_neg hk])
theorem pok_scale {f c : Int} {l : List Int} (h : PolOk f l) : PolOk f (scaleL f l c) := ⟨h.1, Nat.le_trans (scaleL_le f l c) h.2.1, pol_scaleL h.1.1 h.1.2 l c⟩
end Go.Proofs.YtcenglbcibkniaaDoor
