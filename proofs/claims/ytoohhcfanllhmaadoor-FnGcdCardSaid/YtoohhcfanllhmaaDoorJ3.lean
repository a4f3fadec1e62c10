/-
  Texts of the proofs of this seat, joined (part 3).
-/
import Derived.Deep.RegionHeld3
import Derived.Test.YtoohhcfanllhmaaDoorJ2
namespace Go.Proofs.YtoohhcfanllhmaaDoor
open Go.RowKit
theorem drop_lf {l : List Int} {i : Nat} (h : i < l.length) : l.drop i = lf l i :: l.drop (i + 1) := by
  rw [List.drop_eq_getElem_cons h]
  unfold lf
  rw [List.getD_eq_getElem?_getD, List.getElem?_eq_getElem h]
  rfl
theorem comp_step (f : Int) (m : List Int) {l : List Int} {i : Nat} (h : i < l.length) : compL f m (l.drop i) = addL f (mulL f (compL f m (l.drop (i + 1))) m) (cutL 1 fun _ => lf l i) := by
  rw [drop_lf h]
  rfl
theorem comp_pol {f : Int} (h0 : 0 ≤ f) (h8 : f ≤ 8) (m l : List Int) : Pol f (compL f m l) := by
  cases l with
  | nil => exact ⟨fun j => by have := P_bd h0 h8; rw [show compL f m [] = [] from rfl, lf_out [] (Nat.zero_le _)]; omega, .inl rfl⟩
  | cons x t => exact pol_addL h0 h8 _ _
theorem comp_room {f : Int} {a b : List Int} (h : okComp f a b) {k : Nat} (hk : k + 1 ≤ a.length) : k * (b.length - 1) + 1 ≤ 400 := by
  have hk2 : k ≤ a.length - 1 := by omega
  have h1 := Nat.mul_le_mul_right (b.length - 1) hk2
  rcases h.2.2 with h2 | h2 | h2
  · rw [show k = 0 by omega, Nat.zero_mul]; omega
  · rw [show b.length - 1 = 0 by omega, Nat.mul_zero]; omega
  · omega
theorem comp_bd {f : Int} {a b : List Int} (h : okComp f a b) {i : Nat} (hi : i < a.length) : (compL f b (a.drop (i + 1))).length ≤ 400 ∧ (mulL f (compL f b (a.drop (i + 1))) b).length ≤ 400 := by
  have h1 := compL_le f b (a.drop (i + 1))
  have h2 := comp_mul_le f b 0 (a.drop (i + 1))
  rw [List.length_drop] at h1 h2
  have h3 := comp_room h (k := a.length - (i + 1)) (by omega)
  have h4 := comp_room h (k := a.length - (i + 1) - 1) (by omega)
  omega
theorem pol_cut1 {f : Int} {l : List Int} (hl : Pol f l) (hp : 0 < P f) (j : Nat) : Pol f (cutL 1 fun _ => lf l j) := Pol.cut hp fun _ _ => hl.1 j
theorem src_new1 (w : World) (x : Int) : Src (w.alloc (.cells #[.int .i64 x] 3)) (some ⟨w.heap.size, 0, none⟩) 1 (fun _ => x) :=
  .inr ⟨w.heap.size, 0, rfl, by simp, fun j hj => by
    obtain rfl : j = 0 := by omega
    rw [World.cell?_alloc_at _ _ _ _ rfl]; rfl⟩
theorem src_new1d (w : World) (x : Int) : Src (w.alloc (.cells #[.int .i64 x] 3)).drew (some ⟨w.heap.size, 0, none⟩) 1 (fun _ => x) := src_new1 w x
theorem comp_on {f : Int} {l m : List Int} (h : okComp f l m) : mCompose0 f l m = compL f m l ∧ mCompose1 f l m = true := by unfold mCompose0 mCompose1; rw [if_pos h]; exact ⟨rfl, by simp [h]⟩
theorem comp_off {f : Int} {l m : List Int} (h : ¬ okComp f l m) : mCompose0 f l m = [] ∧ mCompose1 f l m = false := by unfold mCompose0 mCompose1; rw [if_neg h]; exact ⟨rfl, by simp [h]⟩
set_option maxRecDepth 100000 in
set_option maxHeartbeats 6400000 in
theorem composed_some (f : Int) (b off : Nat) (a2 : Option Addr) (l m : List Int) (cap cap2 : Nat) (w : World) (ht : Tab w) (h0 : 0 ≤ f) (h8 : f ≤ 8) (hok : okComp f l m) (hs2 : Src w a2 m.length (lf m)) (hlt : b < w.heap.size) (hc : ∀ j, j < l.length → w.cell? ⟨b, off + j, none⟩ = some (.int .i64 (lf l j))) :
    Calls Tryd.prog 55 #[.int .i64 f, .slice (some ⟨b, off, none⟩) l.length cap, .slice a2 m.length cap2] w (OwnG w (compL f m l)) := by
  have hp := P_bd h0 h8
  have l4 := hok.1.2.1
  have m4 := hok.2.1.2.1
  have HL := Lib.hid hok.1.2.2
  have HM := Lib.hid hok.2.1.2.2
  have HC := Lib.hid hc
  have HS2 := Lib.hid hs2
  have HST : Hid (∀ i, i < l.length → compL f m (l.drop i) = addL f (mulL f (compL f m (l.drop (i + 1))) m) (cutL 1 fun _ => lf l i)) := Lib.hid fun i hi => comp_step f m hi
  have HBD : Hid (∀ i, i < l.length → (compL f m (l.drop (i + 1))).length ≤ 400 ∧ (mulL f (compL f m (l.drop (i + 1))) m).length ≤ 400) := Lib.hid fun i hi => comp_bd hok hi
  have HPO : Hid (∀ t, Pol f (compL f m t)) := Lib.hid fun t => comp_pol h0 h8 m t
  have HZ := Lib.hid (poly_none none 0 (fun _ => 0) w)
  have HE : Hid (compL f m (l.drop 0) = compL f m l) := Lib.hid rfl
  have HN : Hid (compL f m (l.drop l.length) = []) := Lib.hid (by rw [List.drop_length]; rfl)
  clear hc hs2 hok
  go_enter Tryd.func55, Tryd.ntmps55
  go_wp2_with fail
  refine HZ.out.mono ?_
  rintro e w1 ⟨g1, rfl, hg1, hO1, hb1⟩
  have HO1 := Lib.hid hO1
  clear hO1 HZ
  go_wp2_with fail
  go_loopw [7, 8] (fun v i wr => ∃ (k : Int) (r : List Int) (g : Nat), i = .int .i64 k ∧ -1 ≤ k ∧ k < l.length ∧ v = .slice (some ⟨g, 0, none⟩) r.length r.length ∧ compL f m (l.drop (k + 1).toNat) = r ∧ w.heap.size ≤ g ∧ Own wr g r.length (lf r) ∧ Below w.heap.size w wr) (fun _ i _ => (intOf i + 1).toNat)
  case atStart => exact ⟨_, [], g1, rfl, by omega, by omega, rfl, by rw [show ((l.length : Int) - 1 + 1).toNat = l.length by omega]; exact HN.out, hg1, HO1.out, hb1⟩
  case round =>
    clear HO1
    obtain ⟨k, r, g, rfl, hk1, hk2, rfl, hr, hg, ho, hb⟩ := hrel
    by_cases hk : 0 ≤ k
    · obtain ⟨j, rfl⟩ : ∃ j : Nat, k = (j : Int) := ⟨k.toNat, by omega⟩
      have hj : j < l.length := by omega
      rw [show ((j : Int) + 1).toNat = j + 1 by omega] at hr
      have bd := HBD.out j hj
      have hnx0 := HST.out j hj
      have pr := HPO.out (l.drop (j + 1))
      rw [hr] at bd pr
      have HNX : Hid (compL f m (l.drop j) = addL f (mulL f r m) (cutL 1 fun _ => lf l j)) := Lib.hid (by rw [← hr]; exact hnx0)
      have c1 : wr.cell? ⟨b, off + j, none⟩ = some (.int .i64 (lf l j)) := (hb.cell (p := ⟨b, off + j, none⟩) hlt).trans (HC.out j hj)
      have blt : b < wr.heap.size := Nat.lt_of_lt_of_le hlt hb.size
      have HPR : Hid (∀ W, Below wr.heap.size wr W → Calls Tryd.prog 33 #[.int .i64 f, .slice (some ⟨g, 0, none⟩) r.length r.length, .slice a2 m.length cap2] W (OwnG W (mulL f r m))) := Lib.hid (fun W hW => product_c f _ a2 r m r.length cap2 W (ht.below (below_up hb hW hb.size)) h0 h8 (by omega) (by omega) pr HM.out (ho.keep hW).src (HS2.out.keep (below_up hb hW hb.size)))
      have HSU : Hid (∀ (W : World) (g2 g3 : Nat), Below wr.heap.size wr W → Own W g2 (mulL f r m).length (lf (mulL f r m)) → Own W g3 (cutL 1 fun _ => lf l j).length (lf (cutL 1 fun _ => lf l j)) → Calls Tryd.prog 34 #[.int .i64 f, .slice (some ⟨g2, 0, none⟩) (mulL f r m).length (mulL f r m).length, .slice (some ⟨g3, 0, none⟩) (cutL 1 fun _ => lf l j).length (cutL 1 fun _ => lf l j).length] W (OwnG W (addL f (mulL f r m) (cutL 1 fun _ => lf l j)))) := Lib.hid (fun W g2 g3 hW o2 o3 => sum_c f _ _ _ _ _ _ W (ht.below (below_up hb hW hb.size)) h0 h8 (by omega) (by have := cut1_le (lf l j); omega) (pol_mulL h0 h8 r m) (pol_cut1 HL.out (by omega) j) o2.src o3.src)
      have KS : Hid (∀ W, Below wr.heap.size wr W → W.cell? ⟨b, off + j, none⟩ = some (.int .i64 (lf l j)) ∧ Below wr.heap.size wr W) := Lib.hid (fun W hW => ⟨(hW.cell (p := ⟨b, off + j, none⟩) blt).trans c1, hW⟩)
      have KB : Hid (∀ W, Below wr.heap.size wr W → Below w.heap.size w W) := Lib.hid (fun W hW => below_up hb hW hb.size)
      have KZ : Hid (w.heap.size ≤ wr.heap.size) := Lib.hid hb.size
      have HP1 : Hid (∀ (W : World) (b3 : Nat), Src W (some ⟨b3, 0, none⟩) 1 (fun _ => lf l j) → Calls Tryd.prog 59 #[.slice (some ⟨b3, 0, none⟩) 1 1] W (OwnG W (cutL 1 fun _ => lf l j))) := Lib.hid (fun W b3 h => poly_c _ 1 1 _ W (by omega) h)
      clear hnx0
      generalize lf l j = X at *
      generalize mulL f r m = L2 at *
      generalize (cutL 1 fun _ => X) = L3 at *
      clear hr pr bd ho c1 hb
      go_wp2_with fail
      go_region_held3 (fun W => W.cell? ⟨b, off + j, none⟩ = some (.int .i64 X) ∧ Below wr.heap.size wr W)
        (first
          | exact KS.out _ (Below.refl _ _).drew
          | (obtain ⟨_, hX⟩ : _ ∧ Below wr.heap.size wr _ := (by assumption); exact KS.out _ (hX.alloc hX.size _))
          | (obtain ⟨_, hX⟩ : _ ∧ Below wr.heap.size wr _ := (by assumption); exact KS.out _ (below_up hX hB4 hX.size))
          | (obtain ⟨_, hX⟩ : _ ∧ Below wr.heap.size wr _ := (by assumption); exact KS.out _ (below_up hX hB3 hX.size))
          | (obtain ⟨_, hX⟩ : _ ∧ Below wr.heap.size wr _ := (by assumption); exact KS.out _ (below_up hX hB2 hX.size)))
        (first
          | (go_at_call 33; obtain ⟨_, hX⟩ : _ ∧ Below wr.heap.size wr _ := (by assumption); refine (HPR.out _ hX).mono ?_; rintro e w2 ⟨g2, rfl, hg2, hO2, hB2⟩; clear hX)
          | (go_at_call 59; refine (HP1.out _ _ (by first | exact src_new1 _ _ | exact (src_new1d _ _).keep hB2)).mono ?_; rintro e w3 ⟨g3, rfl, hg3, hO3, hB3⟩)
          | (go_at_call 34; obtain ⟨_, hX⟩ : _ ∧ Below wr.heap.size wr _ := (by assumption); refine (HSU.out _ _ _ hX (by first | exact hO2.keep hB3 | exact (hO2.keep ((Below.refl _ _).alloc (Nat.le_refl _) _)).keep hB3) hO3).mono ?_; rintro e w4 ⟨g4, rfl, hg4, hO4, hB4⟩; (have hz3 := hX.size); clear hX))
      all_goals
        obtain ⟨_, hX⟩ : _ ∧ Below wr.heap.size wr _ := by assumption
        have HBB := Lib.hid (KB.out _ hX)
        have HO := Lib.hid hO4
        have hgg : w.heap.size ≤ g4 := by have h1 := KZ.out; omega
        clear hO4 hO2 hO3 hB2 hB3 hB4 hX
        go_wp2
        go_roundw
        case rel => exact ⟨(j : Int) - 1, _, g4, by go_num, by omega, by omega, rfl, by rw [show ((j : Int) - 1 + 1).toNat = j by omega]; exact HNX.out, hgg, HO.out, HBB.out⟩
        case measure => simp [intOf] <;> omega
    · obtain rfl : k = -1 := by omega
      have HR : Hid (compL f m l = r) := Lib.hid (HE.out.symm.trans hr)
      have HO := Lib.hid ho
      clear hr ho
      go_wp2
      go_ret
      rw [HR.out]
      exact ⟨g, rfl, hg, HO.out, hb⟩
theorem composed_none (f : Int) (a a2 : Option Addr) (m : List Int) (cap cap2 : Nat) (w : World) :
    Calls Tryd.prog 55 #[.int .i64 f, .slice a 0 cap, .slice a2 m.length cap2] w (OwnG w []) := by
  have HZ := poly_none none 0 (fun _ => 0) w
  rw [show cutL 0 (fun _ => 0) = [] from rfl] at HZ
  go_enter Tryd.func55, Tryd.ntmps55
  go_wp2_with fail
  refine HZ.mono ?_
  rintro e w1 ⟨g1, rfl, hg1, hO1, hb1⟩
  have HO1 := Lib.hid hO1
  clear hO1 HZ
  go_wp2_with fail
  refine wp_loop_rounds 1 ?_
  rw [rounds_succ]
  go_wp2
  go_ret
  exact ⟨g1, rfl, hg1, HO1.out, hb1⟩
theorem composed_c (f : Int) (a a2 : Option Addr) (l m : List Int) (cap cap2 : Nat) (w : World) (ht : Tab w) (hok : okComp f l m) (hs : Src w a l.length (lf l)) (hs2 : Src w a2 m.length (lf m)) :
    Calls Tryd.prog 55 #[.int .i64 f, .slice a l.length cap, .slice a2 m.length cap2] w (OwnG w (compL f m l)) := by
  rcases hs with h | ⟨b, off, rfl, hlt, hc⟩
  · rw [h, List.eq_nil_of_length_eq_zero h]
    exact composed_none f a a2 m cap cap2 w
  · exact composed_some f b off a2 l m cap cap2 w ht hok.1.1.1 hok.1.1.2 hok hs2 hlt hc
theorem comp_int {n m : Nat} : (400 : Int) ≤ ((n : Int) - 1) * ((m : Int) - 1) ↔ ¬ (n ≤ 1 ∨ m ≤ 1 ∨ (n - 1) * (m - 1) < 400) := by
  by_cases hn : n ≤ 1
  · have h : n = 0 ∨ n = 1 := by omega
    rcases h with rfl | rfl
    · have : (((0 : Nat) : Int) - 1) * ((m : Int) - 1) = 1 - m := by
        show (0 - 1 : Int) * ((m : Int) - 1) = _
        omega
      rw [this]
      omega
    · have : (((1 : Nat) : Int) - 1) * ((m : Int) - 1) = 0 := by
        rw [show (((1 : Nat) : Int) - 1) = 0 by omega, Int.zero_mul]
      rw [this]
      omega
  · by_cases hm : m ≤ 1
    · have h : m = 0 ∨ m = 1 := by omega
      rcases h with rfl | rfl
      · have : ((n : Int) - 1) * (((0 : Nat) : Int) - 1) = 1 - n := by
          show ((n : Int) - 1) * (0 - 1 : Int) = _
          omega
        rw [this]
        omega
      · have : ((n : Int) - 1) * (((1 : Nat) : Int) - 1) = 0 := by
          rw [show (((1 : Nat) : Int) - 1) = 0 by omega, Int.mul_zero]
        rw [this]
        omega
    · obtain ⟨x, rfl⟩ : ∃ x, n = x + 1 := ⟨n - 1, by omega⟩
      obtain ⟨y, rfl⟩ : ∃ y, m = y + 1 := ⟨m - 1, by omega⟩
      have e1 : (((x + 1 : Nat) : Int) - 1) = (x : Int) := by omega
      have e2 : (((y + 1 : Nat) : Int) - 1) = (y : Int) := by omega
      rw [e1, e2, Nat.add_sub_cancel, Nat.add_sub_cancel]
      have e3 : (x : Int) * (y : Int) = ((x * y : Nat) : Int) := by rw [Int.natCast_mul]
      rw [e3]
      generalize x * y = z
      constructor
      · intro h; omega
      · intro h; omega
theorem comp_prod {n m : Nat} (hn : n ≤ 400) (hm : m ≤ 400) : -1000000 ≤ ((n : Int) - 1) * ((m : Int) - 1) ∧ ((n : Int) - 1) * ((m : Int) - 1) ≤ 1000000 := by
  cases n with
  | zero =>
    have : (((0 : Nat) : Int) - 1) * ((m : Int) - 1) = 1 - m := by
      show (0 - 1 : Int) * ((m : Int) - 1) = _
      omega
    rw [this]; omega
  | succ x =>
    cases m with
    | zero =>
      have : (((x + 1 : Nat) : Int) - 1) * (((0 : Nat) : Int) - 1) = -(x : Int) := by
        show (((x + 1 : Nat) : Int) - 1) * (0 - 1 : Int) = _
        omega
      rw [this]; omega
    | succ y =>
      have e1 : (((x + 1 : Nat) : Int) - 1) = (x : Int) := by omega
      have e2 : (((y + 1 : Nat) : Int) - 1) = (y : Int) := by omega
      rw [e1, e2]
      have e3 : (x : Int) * (y : Int) = ((x * y : Nat) : Int) := by rw [Int.natCast_mul]
      have := Nat.mul_le_mul (show x ≤ 400 by omega) (show y ≤ 400 by omega)
      rw [e3]
      omega
set_option maxRecDepth 100000 in
set_option maxHeartbeats 1600000 in
theorem iCompose (f : Int) (a : Option Addr) (l : List Int) (cap : Nat) (a2 : Option Addr) (m : List Int) (cap2 : Nat) (w : World) (hn : l.length ≤ 1048576) (hn2 : m.length ≤ 1048576) (hs : Src w a l.length (lf l)) (hs2 : Src w a2 m.length (lf m)) (ht : Tab w) :
    Calls Tryd.prog 26 #[.int .i64 f, .slice a l.length cap, .slice a2 m.length cap2] w (OwnLB w (mCompose0 f l m) (mCompose1 f l m)) := by
  have HS := Lib.hid hs
  have HS2 := Lib.hid hs2
  have BA : Hid (∀ o, Below w.heap.size w (w.alloc o)) := Lib.hid fun o => (Below.refl _ _).alloc (Nat.le_refl _) o
  clear hs hs2
  by_cases hp : PolOk f l ∧ PolOk f m
  · have HB : Hid ((mPolyOk f l && mPolyOk f m) = true) := Lib.hid (by rw [pok_iff.2 hp.1, pok_iff.2 hp.2]; rfl)
    have l4 := hp.1.2.1
    have m4 := hp.2.2.1
    have pb := comp_prod l4 m4
    by_cases hk : (400 : Int) ≤ ((l.length : Int) - 1) * ((m.length : Int) - 1)
    · have HX := Lib.hid (comp_off (f := f) (l := l) (m := m) (fun h => comp_int.1 hk h.2.2))
      rw [HX.out.1, HX.out.2]
      have dk : decide ((400 : Int) ≤ ((l.length : Int) - 1) * ((m.length : Int) - 1)) = true := decide_eq_true hk
      clear hp HX
      go_enter Tryd.func26, Tryd.ntmps26
      go_wp2_with fail
      refine (arePolys_c f w.heap.size a a2 l m cap cap2 _ hn hn2 (HS.out.keep (BA.out _)) (HS2.out.keep (BA.out _)) (ht.below (BA.out _)) (cell_two _ _ _ _).1 (cell_two _ _ _ _).2).mono ?_
      rintro e w' ⟨rfl, rfl⟩
      rw [HB.out]
      go_wp2
      go_ret2
      exact ⟨none, 0, rfl, OwnA.nil rfl, BA.out _⟩
    · have hok : okComp f l m := ⟨hp.1, hp.2, by
        by_cases h : l.length ≤ 1 ∨ m.length ≤ 1 ∨ (l.length - 1) * (m.length - 1) < 400
        · exact h
        · exact absurd (comp_int.2 h) hk⟩
      have HX := Lib.hid (comp_on hok)
      have HOK := Lib.hid hok
      rw [HX.out.1, HX.out.2]
      have dk : decide ((400 : Int) ≤ ((l.length : Int) - 1) * ((m.length : Int) - 1)) = false := decide_eq_false hk
      clear hp HX hok
      go_enter Tryd.func26, Tryd.ntmps26
      go_wp2_with fail
      refine (arePolys_c f w.heap.size a a2 l m cap cap2 _ hn hn2 (HS.out.keep (BA.out _)) (HS2.out.keep (BA.out _)) (ht.below (BA.out _)) (cell_two _ _ _ _).1 (cell_two _ _ _ _).2).mono ?_
      rintro e w' ⟨rfl, rfl⟩
      rw [HB.out]
      go_wp2_with fail
      refine (composed_c f a a2 l m cap cap2 _ (ht.below (BA.out _)) HOK.out (HS.out.keep (BA.out _)) (HS2.out.keep (BA.out _))).mono ?_
      rintro e w2 ho
      obtain ⟨g, rfl, hg, hO, hB⟩ := ho.up (BA.out _)
      have HO := Lib.hid hO
      clear hO ho
      go_wp2
      go_ret2
      exact OwnG.finishB hg HO.out hB
  · have HB : Hid ((mPolyOk f l && mPolyOk f m) = false) := Lib.hid (by
      by_cases h1 : PolOk f l
      · rw [pok_not.2 fun h => hp ⟨h1, h⟩, Bool.and_false]
      · rw [pok_not.2 h1, Bool.false_and])
    have HX := Lib.hid (comp_off (f := f) (l := l) (m := m) fun h => hp ⟨h.1, h.2.1⟩)
    rw [HX.out.1, HX.out.2]
    clear hp HX
    go_enter Tryd.func26, Tryd.ntmps26
    go_wp2_with fail
    refine (arePolys_c f w.heap.size a a2 l m cap cap2 _ hn hn2 (HS.out.keep (BA.out _)) (HS2.out.keep (BA.out _)) (ht.below (BA.out _)) (cell_two _ _ _ _).1 (cell_two _ _ _ _).2).mono ?_
    rintro e w' ⟨rfl, rfl⟩
    rw [HB.out]
    go_wp2
    go_ret2
    exact ⟨none, 0, rfl, OwnA.nil rfl, BA.out _⟩
theorem polOk_of {f : Int} {l : List Int} (h0 : 0 ≤ f) (h8 : f ≤ 8) (hl : l.length ≤ 400) (h : Pol f l) : PolOk f l := ⟨⟨h0, h8⟩, hl, h⟩
set_option maxRecDepth 100000 in
set_option maxHeartbeats 6400000 in
theorem sComp_on (f : Int) (a : Option Addr) (l : List Int) (cap : Nat) (a2 : Option Addr) (m : List Int) (cap2 : Nat) (w : World) (hn : l.length ≤ 1048576) (hn2 : m.length ≤ 1048576) (hs : Src w a l.length (lf l)) (hs2 : Src w a2 m.length (lf m)) (hok : okComp f l m) :
    Calls Tryd.prog 25 #[.int .i64 f, .slice a l.length cap, .slice a2 m.length cap2] w (ListLB w (compL f m l) true) := by
  have R1 := sPolyOk f a l cap w hn hs
  have R2 := sPolyOk f a2 m cap2 w hn2 hs2
  rw [pok_iff.2 hok.1] at R1
  rw [pok_iff.2 hok.2.1] at R2
  have h0 := hok.1.1.1
  have h8 := hok.1.1.2
  have hp := P_bd h0 h8
  have l4 := hok.1.2.1
  have m4 := hok.2.1.2.1
  have pb := comp_prod l4 m4
  have hcase : (decide ((1 : Int) < l.length) = false) ∨ (decide ((1 : Int) < l.length) = true ∧ decide ((1 : Int) < m.length) = false) ∨ (decide ((1 : Int) < l.length) = true ∧ decide ((1 : Int) < m.length) = true ∧ decide ((400 : Int) ≤ ((l.length : Int) - 1) * ((m.length : Int) - 1)) = false) := by
    by_cases q1 : (1 : Int) < l.length
    · by_cases q2 : (1 : Int) < m.length
      · exact .inr (.inr ⟨decide_eq_true q1, decide_eq_true q2, decide_eq_false fun h => comp_int.1 h hok.2.2⟩)
      · exact .inr (.inl ⟨decide_eq_true q1, decide_eq_false q2⟩)
    · exact .inl (decide_eq_false q1)
  have HL := Lib.hid hok.1.2.2
  have HM := Lib.hid hok.2.1.2.2
  have HS := Lib.hid hs
  have HS2 := Lib.hid hs2
  have HST : Hid (∀ i, i < l.length → compL f m (l.drop i) = addL f (mulL f (compL f m (l.drop (i + 1))) m) (cutL 1 fun _ => lf l i)) := Lib.hid fun i hi => comp_step f m hi
  have HBD : Hid (∀ i, i < l.length → (compL f m (l.drop (i + 1))).length ≤ 400 ∧ (mulL f (compL f m (l.drop (i + 1))) m).length ≤ 400) := Lib.hid fun i hi => comp_bd hok hi
  have HPO : Hid (∀ t, Pol f (compL f m t)) := Lib.hid fun t => comp_pol h0 h8 m t
  have HE : Hid (compL f m (l.drop 0) = compL f m l) := Lib.hid rfl
  have HN : Hid (compL f m (l.drop l.length) = []) := Lib.hid (by rw [List.drop_length]; rfl)
  clear hs hs2 hok
  rcases hcase with d1 | ⟨d1, d2⟩ | ⟨d1, d2, d3⟩
  all_goals
    go_enter Tryd.func25, Tryd.ntmps25
    go_wp2_with fail
    refine R1.mono ?_
    rintro e w' ⟨rfl, rfl⟩
    go_wp2_with fail
    refine R2.mono ?_
    rintro e w' ⟨rfl, rfl⟩
    clear R1 R2
    go_wp2_with fail
    clear d1
    go_loopw [8, 9] (fun v i wr => ∃ (k : Int) (r : List Int) (ra : Option Addr) (cr : Nat), i = .int .i64 k ∧ -1 ≤ k ∧ k < l.length ∧ v = .slice ra r.length cr ∧ compL f m (l.drop (k + 1).toNat) = r ∧ Src wr ra r.length (lf r) ∧ Below w.heap.size w wr) (fun _ i _ => (intOf i + 1).toNat)
    case atStart => exact ⟨_, [], _, _, rfl, by omega, by omega, rfl, by rw [show ((l.length : Int) - 1 + 1).toNat = l.length by omega]; exact HN.out, .inl rfl, (Below.refl _ _).alloc (Nat.le_refl _) _⟩
    case round =>
      obtain ⟨k, r, ra, cr, rfl, hk1, hk2, rfl, hr, ho, hb⟩ := hrel
      by_cases hk : 0 ≤ k
      · obtain ⟨j, rfl⟩ : ∃ j : Nat, k = (j : Int) := ⟨k.toNat, by omega⟩
        have hj : j < l.length := by omega
        rw [show ((j : Int) + 1).toNat = j + 1 by omega] at hr
        rcases HS.out with hz | ⟨b, off, rfl, hlt, hc⟩
        · omega
        have bd := HBD.out j hj
        have hnx0 := HST.out j hj
        have pr := HPO.out (l.drop (j + 1))
        rw [hr] at bd pr
        have HNX : Hid (compL f m (l.drop j) = addL f (mulL f r m) (cutL 1 fun _ => lf l j)) := Lib.hid (by rw [← hr]; exact hnx0)
        have c1 : wr.cell? ⟨b, off + j, none⟩ = some (.int .i64 (lf l j)) := (hb.cell (p := ⟨b, off + j, none⟩) hlt).trans (hc j hj)
        have blt : b < wr.heap.size := Nat.lt_of_lt_of_le hlt hb.size
        have HPR : Hid (∀ W, Below wr.heap.size wr W → Calls Tryd.prog 36 #[.int .i64 f, .slice ra r.length cr, .slice a2 m.length cap2] W (OwnsL W (mulL f r m))) := Lib.hid (fun W hW => lmul_c f ra a2 r m cr cap2 W h0 h8 (by omega) (by omega) pr HM.out (ho.keep hW) (HS2.out.keep (below_up hb hW hb.size)))
        have HSU : Hid (∀ (W : World) (x2 x3 : Option Addr) (c2 c3 : Nat), Src W x2 (mulL f r m).length (lf (mulL f r m)) → Src W x3 (cutL 1 fun _ => lf l j).length (lf (cutL 1 fun _ => lf l j)) → Calls Tryd.prog 53 #[.int .i64 f, .slice x2 (mulL f r m).length c2, .slice x3 (cutL 1 fun _ => lf l j).length c3] W (OwnsL W (addL f (mulL f r m) (cutL 1 fun _ => lf l j)))) := Lib.hid (fun W x2 x3 c2 c3 o2 o3 => sAddPoly_on f _ _ _ _ _ _ W (by omega) (by have := cut1_le (lf l j); omega) o2 o3 (polOk_of h0 h8 bd.2 (pol_mulL h0 h8 r m)) (polOk_of h0 h8 (by have := cut1_le (lf l j); omega) (pol_cut1 HL.out (by omega) j)))
        have KS : Hid (∀ W, Below wr.heap.size wr W → W.cell? ⟨b, off + j, none⟩ = some (.int .i64 (lf l j)) ∧ Below wr.heap.size wr W) := Lib.hid (fun W hW => ⟨(hW.cell (p := ⟨b, off + j, none⟩) blt).trans c1, hW⟩)
        have KB : Hid (∀ W, Below wr.heap.size wr W → Below w.heap.size w W) := Lib.hid (fun W hW => below_up hb hW hb.size)
        have HP1 : Hid (∀ (W : World) (b3 : Nat), Src W (some ⟨b3, 0, none⟩) 1 (fun _ => lf l j) → Calls Tryd.prog 54 #[.slice (some ⟨b3, 0, none⟩) 1 1] W (OwnsL W (cutL 1 fun _ => lf l j))) := Lib.hid (fun W b3 h => cut_c _ 1 1 _ W (by omega) (Nat.le_refl _) h)
        clear hnx0 hc
        generalize lf l j = X at *
        generalize mulL f r m = L2 at *
        generalize (cutL 1 fun _ => X) = L3 at *
        clear hr pr bd ho c1 hb
        go_wp2_with fail
        go_region_held3 (fun W => W.cell? ⟨b, off + j, none⟩ = some (.int .i64 X) ∧ Below wr.heap.size wr W)
          (first
            | exact KS.out _ (Below.refl _ _).drew
            | (obtain ⟨_, hX⟩ : _ ∧ Below wr.heap.size wr _ := (by assumption); exact KS.out _ (hX.alloc hX.size _))
            | (obtain ⟨_, hX⟩ : _ ∧ Below wr.heap.size wr _ := (by assumption); exact KS.out _ (below_up hX hB4 hX.size))
            | (obtain ⟨_, hX⟩ : _ ∧ Below wr.heap.size wr _ := (by assumption); exact KS.out _ (below_up hX hB3 hX.size))
            | (obtain ⟨_, hX⟩ : _ ∧ Below wr.heap.size wr _ := (by assumption); exact KS.out _ (below_up hX hB2 hX.size)))
          (first
            | (go_at_call 36; obtain ⟨_, hX⟩ : _ ∧ Below wr.heap.size wr _ := (by assumption); refine (HPR.out _ hX).mono ?_; rintro e w2 ho2; obtain ⟨x2, c2, rfl, hO2, hB2⟩ := ho2.list; clear hX ho2)
            | (go_at_call 54; refine (HP1.out _ _ (by first | exact src_new1 _ _ | exact (src_new1d _ _).keep hB2)).mono ?_; rintro e w3 ho3; obtain ⟨x3, c3, rfl, hO3, hB3⟩ := ho3.list; clear ho3)
            | (go_at_call 53; refine (HSU.out _ _ _ _ _ (by first | exact hO2.keep hB3 | exact (hO2.keep ((Below.refl _ _).alloc (Nat.le_refl _) _)).keep hB3) hO3).mono ?_; rintro e w4 ho4; obtain ⟨x4, c4, rfl, hO4, hB4⟩ := ho4.list; clear ho4))
        all_goals
          obtain ⟨_, hX⟩ : _ ∧ Below wr.heap.size wr _ := by assumption
          have HBB := Lib.hid (KB.out _ hX)
          have HO := Lib.hid hO4
          clear hO4 hO2 hO3 hB2 hB3 hB4 hX
          go_wp2
          go_roundw
          case rel => exact ⟨(j : Int) - 1, _, x4, c4, by go_num, by omega, by omega, rfl, by rw [show ((j : Int) - 1 + 1).toNat = j by omega]; exact HNX.out, HO.out, HBB.out⟩
          case measure => simp [intOf] <;> omega
      · obtain rfl : k = -1 := by omega
        have HR : Hid (compL f m l = r) := Lib.hid (HE.out.symm.trans hr)
        have HO := Lib.hid ho
        clear hr ho
        go_wp2
        go_ret2
        rw [HR.out]
        exact ⟨ra, cr, rfl, HO.out, hb⟩
set_option maxRecDepth 100000 in
set_option maxHeartbeats 1600000 in
theorem sCompose (f : Int) (a : Option Addr) (l : List Int) (cap : Nat) (a2 : Option Addr) (m : List Int) (cap2 : Nat) (w : World) (hn : l.length ≤ 1048576) (hn2 : m.length ≤ 1048576) (hs : Src w a l.length (lf l)) (hs2 : Src w a2 m.length (lf m)) :
    Calls Tryd.prog 25 #[.int .i64 f, .slice a l.length cap, .slice a2 m.length cap2] w (ListLB w (mCompose0 f l m) (mCompose1 f l m)) := by
  by_cases hok : okComp f l m
  · rw [(comp_on hok).1, (comp_on hok).2]
    exact sComp_on f a l cap a2 m cap2 w hn hn2 hs hs2 hok
  · have R1 := sPolyOk f a l cap w hn hs
    have R2 := sPolyOk f a2 m cap2 w hn2 hs2
    rw [(comp_off hok).1, (comp_off hok).2]
    by_cases h1 : PolOk f l
    · rw [pok_iff.2 h1] at R1
      by_cases h2 : PolOk f m
      · rw [pok_iff.2 h2] at R2
        have pb := comp_prod h1.2.1 h2.2.1
        have l4 := h1.2.1
        have m4 := h2.2.1
        have h3 : ¬ (l.length ≤ 1 ∨ m.length ≤ 1 ∨ (l.length - 1) * (m.length - 1) < 400) := fun h => hok ⟨h1, h2, h⟩
        have d1 : decide ((1 : Int) < l.length) = true := decide_eq_true (by omega)
        have d2 : decide ((1 : Int) < m.length) = true := decide_eq_true (by omega)
        have d3 : decide ((400 : Int) ≤ ((l.length : Int) - 1) * ((m.length : Int) - 1)) = true := decide_eq_true (comp_int.2 h3)
        clear hs hs2 h1 h2 hok h3
        go_enter Tryd.func25, Tryd.ntmps25
        go_wp2_with fail
        refine R1.mono ?_
        rintro e w' ⟨rfl, rfl⟩
        go_wp2_with fail
        refine R2.mono ?_
        rintro e w' ⟨rfl, rfl⟩
        go_wp2
        go_ret2
        exact ⟨none, 0, rfl, .inl rfl, Below.refl _ _⟩
      · rw [pok_not.2 h2] at R2
        clear hs hs2 h1 h2 hok
        go_enter Tryd.func25, Tryd.ntmps25
        go_wp2_with fail
        refine R1.mono ?_
        rintro e w' ⟨rfl, rfl⟩
        go_wp2_with fail
        refine R2.mono ?_
        rintro e w' ⟨rfl, rfl⟩
        go_wp2
        go_ret2
        exact ⟨none, 0, rfl, .inl rfl, Below.refl _ _⟩
    · rw [pok_not.2 h1] at R1
      clear hs hs2 h1 hok
      go_enter Tryd.func25, Tryd.ntmps25
      go_wp2_with fail
      refine R1.mono ?_
      rintro e w' ⟨rfl, rfl⟩
      go_wp2
      go_ret2
      exact ⟨none, 0, rfl, .inl rfl, Below.refl _ _⟩
end Go.Proofs.YtoohhcfanllhmaaDoor
namespace Go.Proofs.YtoohhcfanllhmaaDoor
open Go.RowKit
theorem lf_one : lf [1] = oneS := by
  funext j
  cases j with
  | zero => rfl
  | succ j => simp [lf, oneS]
theorem one_cut : cutL 1 (fun _ => (1 : Int)) = [1] := rfl
theorem pol_one {f : Int} (h0 : 0 ≤ f) (h8 : f ≤ 8) : Pol f [1] := by
  have hp := P_bd h0 h8
  rw [← one_cut]
  exact Pol.cut (by omega) fun _ _ => by omega
theorem src_one (w : World) (x : Int) : Src (w.alloc (.cells #[.int .i64 x] 3)) (some ⟨w.heap.size, 0, none⟩) 1 (fun _ => x) :=
  .inr ⟨w.heap.size, 0, rfl, by simp, fun j hj => by
    obtain rfl : j = 0 := by omega
    rw [World.cell?_alloc_at _ _ _ _ rfl]; rfl⟩
set_option maxRecDepth 100000 in
set_option maxHeartbeats 3200000 in
theorem pow_c (f e0 : Int) (a a2 : Option Addr) (l m : List Int) (cap cap2 : Nat) (w : World) (ht : Tab w) (h0 : 0 ≤ f) (h8 : f ≤ 8) (hn : l.length ≤ 400) (hn2 : m.length ≤ 400) (hz : m.length ≠ 0) (he0 : 0 ≤ e0) (he1 : e0 ≤ 1000000) (hl : Pol f l) (hm : Pol f m) (hs : Src w a l.length (lf l)) (hs2 : Src w a2 m.length (lf m)) :
    Calls Tryd.prog 57 #[.int .i64 f, .slice a l.length cap, .int .i64 e0, .slice a2 m.length cap2] w (OwnG w (powL f l e0.toNat m)) := by
  have HS := Lib.hid hs
  have HS2 := Lib.hid hs2
  have HPL := Lib.hid hl
  have HPM := Lib.hid hm
  have HU : Hid (∀ r s, PowAt f m (lf l) e0.toNat 0 r s → powL f l e0.toNat m = r) := Lib.hid fun r s h => powL_eq h0 h8 hm h.last
  have HST : Hid (PowAt f m (lf l) e0.toNat e0.toNat (remL f [1] m) (remL f l m)) := Lib.hid (PowAt.first (by have := remL_is h0 h8 (pol_one h0 h8) hm hz; rwa [lf_one] at this) (remL_is h0 h8 hl hm hz))
  have BA : Hid (∀ o, Below w.heap.size w (w.alloc o)) := Lib.hid fun o => (Below.refl _ _).alloc (Nat.le_refl _) o
  clear hs hs2 hl hm
  obtain ⟨E, hE⟩ : ∃ E, e0.toNat = E := ⟨_, rfl⟩
  rw [hE] at HU HST ⊢
  have HEE := Lib.hid hE
  clear hE
  have HPO := Lib.hid (poly_c (some ⟨w.heap.size, 0, none⟩) 1 1 (fun _ => 1) (w.alloc (.cells #[.int .i64 1] 3)) (by omega) (src_one w 1))
  rw [one_cut] at HPO
  go_enter Tryd.func57, Tryd.ntmps57
  go_wp2_with fail
  refine HPO.out.mono ?_
  rintro e w1 ho1
  obtain ⟨g1, rfl, hg1, hO1, hb1⟩ := ho1.up (BA.out _)
  have HD1 := Lib.hid (remainder_c f (some ⟨g1, 0, none⟩) a2 [1] m 1 cap2 w1 (ht.below hb1) h0 h8 (by show 1 ≤ 4096; omega) (by omega) hz (pol_one h0 h8) HPM.out hO1.src (HS2.out.keep hb1))
  clear ho1 hO1 HPO
  go_wp2_with fail
  refine HD1.out.mono ?_
  rintro e w2 ⟨g2, rfl, hg2, hO2, hb2⟩
  have hb2' := below_up hb1 hb2 hb1.size
  have HD2 := Lib.hid (remainder_c f a a2 l m cap cap2 w2 (ht.below hb2') h0 h8 (by omega) (by omega) hz HPL.out HPM.out (HS.out.keep hb2') (HS2.out.keep hb2'))
  have HO2 := Lib.hid hO2
  clear hO2 HD1
  go_wp2_with fail
  refine HD2.out.mono ?_
  rintro e w3 ⟨g3, rfl, hg3, hO3, hb3⟩
  have HB3 := Lib.hid (below_up hb2' hb3 hb2'.size)
  have HO3 := Lib.hid (HO2.out.keep hb3)
  have HS3 := Lib.hid hO3.src
  have hgw : w.heap.size ≤ g2 := Nat.le_trans hb1.size hg2
  clear hO3 HO2 HD2 hb1 hb2 hb2' hb3
  go_wp2_with fail
  go_loopw [2, 9, 10] (fun ve vr vs wr => ∃ (k : Int) (r s : List Int) (gr : Nat) (sa : Option Addr) (cs : Nat), ve = .int .i64 k ∧ vr = .slice (some ⟨gr, 0, none⟩) r.length r.length ∧ vs = .slice sa s.length cs ∧ w.heap.size ≤ gr ∧ Own wr gr r.length (lf r) ∧ Src wr sa s.length (lf s) ∧ 0 ≤ k ∧ k ≤ 1000000 ∧ PowAt f m (lf l) E k.toNat r s ∧ Below w.heap.size w wr) (fun ve _ _ _ => (intOf ve).toNat)
  case atStart => exact ⟨e0, _, _, g2, _, _, rfl, rfl, rfl, hgw, HO3.out, HS3.out, he0, he1, by rw [HEE.out]; exact HST.out, HB3.out⟩
  case round =>
    clear HO3 HS3 HST HB3
    obtain ⟨k, r, s, gr, sa, cs, rfl, rfl, rfl, hgr, hor, hss, k0, k1, hat, hb⟩ := hrel
    have pr := hat.1.1
    have lr := hat.1.2
    have ps := hat.2.1.1
    have ls := hat.2.1.2
    by_cases hk : 0 < k
    · by_cases h2 : k % 2 = 1
      · have HM1 := Lib.hid (product_c f (some ⟨gr, 0, none⟩) sa r s r.length cs wr (ht.below hb) h0 h8 (by omega) (by omega) pr ps hor.src hss)
        have LM1 : (mulL f r s).length ≤ 4096 := by have := mulL_le f r s; omega
        have HPM1 : Hid (Pol f (mulL f r s)) := Lib.hid (pol_mulL h0 h8 r s)
        have HR1 : Hid (IsRem f (lf (mulL f r s)) m (remL f (mulL f r s) m)) := Lib.hid (remL_is h0 h8 HPM1.out HPM.out hz)
        have LM2 : (mulL f s s).length ≤ 4096 := by have := mulL_le f s s; omega
        have HPM2 : Hid (Pol f (mulL f s s)) := Lib.hid (pol_mulL h0 h8 s s)
        have HR2 : Hid (IsRem f (lf (mulL f s s)) m (remL f (mulL f s s) m)) := Lib.hid (remL_is h0 h8 HPM2.out HPM.out hz)
        have HN : Hid (PowAt f m (lf l) E (k / 2).toNat (remL f (mulL f r s) m) (remL f (mulL f s s) m)) := Lib.hid (by rw [show (k / 2).toNat = k.toNat / 2 by omega]; exact hat.odd (by omega) HR1.out HR2.out)
        have e2 : (k % 2 == 1) = true := by simp [h2]
        have HSS := Lib.hid hss
        have HPS := Lib.hid ps
        clear h2 hat hor hss pr ps
        go_wp2_with fail
        refine HM1.out.mono ?_
        rintro e w3 ⟨g3, rfl, hg3, ho3, hb3⟩
        have hb3' := below_up hb hb3 hb.size
        have HD1 := Lib.hid (remainder_c f (some ⟨g3, 0, none⟩) a2 (mulL f r s) m (mulL f r s).length cap2 w3 (ht.below hb3') h0 h8 LM1 (by omega) hz HPM1.out HPM.out ho3.src (HS2.out.keep hb3'))
        clear ho3 HM1
        go_wp2_with fail
        refine HD1.out.mono ?_
        rintro e w4 ⟨g4, rfl, hg4, ho4, hb4⟩
        have hb4' := below_up hb3' hb4 hb3'.size
        have hs4 := HSS.out.keep (below_up hb3 hb4 hb3.size)
        have HM2 := Lib.hid (product_c f sa sa s s cs cs w4 (ht.below hb4') h0 h8 (by omega) (by omega) HPS.out HPS.out hs4 hs4)
        have HO4 := Lib.hid ho4
        clear ho4 HD1 hs4
        go_wp2_with fail
        refine HM2.out.mono ?_
        rintro e w5 ⟨g5, rfl, hg5, ho5, hb5⟩
        have hb5' := below_up hb4' hb5 hb4'.size
        have HD2 := Lib.hid (remainder_c f (some ⟨g5, 0, none⟩) a2 (mulL f s s) m (mulL f s s).length cap2 w5 (ht.below hb5') h0 h8 LM2 (by omega) hz HPM2.out HPM.out ho5.src (HS2.out.keep hb5'))
        have HO5 := Lib.hid (HO4.out.keep hb5)
        clear ho5 HM2 HO4
        go_wp2_with fail
        refine HD2.out.mono ?_
        rintro e w6 ⟨g6, rfl, hg6, ho6, hb6⟩
        have HB6 := Lib.hid (below_up hb5' hb6 hb5'.size)
        have HS6 := Lib.hid ho6.src
        have HO6 := Lib.hid (HO5.out.keep hb6)
        have hgw : w.heap.size ≤ g4 := Nat.le_trans hb3'.size hg4
        clear ho6 HD2 HO5
        go_wp2
        go_roundw
        case rel => exact ⟨k / 2, _, _, g4, _, _, rfl, rfl, rfl, hgw, HO6.out, HS6.out, by omega, by omega, HN.out, HB6.out⟩
        case measure => simp [intOf] <;> omega
      · have LM2 : (mulL f s s).length ≤ 4096 := by have := mulL_le f s s; omega
        have HPM2 : Hid (Pol f (mulL f s s)) := Lib.hid (pol_mulL h0 h8 s s)
        have HR2 : Hid (IsRem f (lf (mulL f s s)) m (remL f (mulL f s s) m)) := Lib.hid (remL_is h0 h8 HPM2.out HPM.out hz)
        have HN : Hid (PowAt f m (lf l) E (k / 2).toNat r (remL f (mulL f s s) m)) := Lib.hid (by rw [show (k / 2).toNat = k.toNat / 2 by omega]; exact hat.even (by omega) HR2.out)
        have e2 : (k % 2 == 1) = false := by simp [h2]
        have HM2 := Lib.hid (product_c f sa sa s s cs cs wr (ht.below hb) h0 h8 (by omega) (by omega) ps ps hss hss)
        have HOR := Lib.hid hor
        clear h2 hat hor hss pr ps
        go_wp2_with fail
        refine HM2.out.mono ?_
        rintro e w5 ⟨g5, rfl, hg5, ho5, hb5⟩
        have hb5' := below_up hb hb5 hb.size
        have HD2 := Lib.hid (remainder_c f (some ⟨g5, 0, none⟩) a2 (mulL f s s) m (mulL f s s).length cap2 w5 (ht.below hb5') h0 h8 LM2 (by omega) hz HPM2.out HPM.out ho5.src (HS2.out.keep hb5'))
        have HO5 := Lib.hid (HOR.out.keep hb5)
        clear ho5 HM2 HOR
        go_wp2_with fail
        refine HD2.out.mono ?_
        rintro e w6 ⟨g6, rfl, hg6, ho6, hb6⟩
        have HB6 := Lib.hid (below_up hb5' hb6 hb5'.size)
        have HS6 := Lib.hid ho6.src
        have HO6 := Lib.hid (HO5.out.keep hb6)
        clear ho6 HD2 HO5
        go_wp2
        go_roundw
        case rel => exact ⟨k / 2, _, _, gr, _, _, rfl, rfl, rfl, hgr, HO6.out, HS6.out, by omega, by omega, HN.out, HB6.out⟩
        case measure => simp [intOf] <;> omega
    · obtain rfl : k = 0 := by omega
      have HE : Hid (powL f l E m = r) := Lib.hid (HU.out r s hat)
      have HO := Lib.hid hor
      clear hat hor hss pr ps
      go_wp2
      go_ret
      rw [HE.out]
      exact ⟨gr, rfl, hgr, HO.out, hb⟩
theorem powm_on {f e : Int} {l m : List Int} (h : okPow f l e m) : mPowMod0 f l e m = powL f l e.toNat m ∧ mPowMod1 f l e m = true := by unfold mPowMod0 mPowMod1; rw [if_pos h]; exact ⟨rfl, by simp [h]⟩
theorem powm_off {f e : Int} {l m : List Int} (h : ¬ okPow f l e m) : mPowMod0 f l e m = [] ∧ mPowMod1 f l e m = false := by unfold mPowMod0 mPowMod1; rw [if_neg h]; exact ⟨rfl, by simp [h]⟩
set_option maxRecDepth 100000 in
set_option maxHeartbeats 1600000 in
theorem iPowMod (f : Int) (a : Option Addr) (l : List Int) (cap : Nat) (e0 : Int) (a2 : Option Addr) (m : List Int) (cap2 : Nat) (w : World) (hn : l.length ≤ 1048576) (hn2 : m.length ≤ 1048576) (hs : Src w a l.length (lf l)) (hs2 : Src w a2 m.length (lf m)) (ht : Tab w) :
    Calls Tryd.prog 28 #[.int .i64 f, .slice a l.length cap, .int .i64 e0, .slice a2 m.length cap2] w (OwnLB w (mPowMod0 f l e0 m) (mPowMod1 f l e0 m)) := by
  have HS := Lib.hid hs
  have HS2 := Lib.hid hs2
  have BA : Hid (∀ o, Below w.heap.size w (w.alloc o)) := Lib.hid fun o => (Below.refl _ _).alloc (Nat.le_refl _) o
  clear hs hs2
  by_cases hp : PolOk f l ∧ PolOk f m
  · have HB : Hid ((mPolyOk f l && mPolyOk f m) = true) := Lib.hid (by rw [pok_iff.2 hp.1, pok_iff.2 hp.2]; rfl)
    have HP := Lib.hid hp
    by_cases hz : m.length = 0
    · have HX := Lib.hid (powm_off (f := f) (l := l) (e := e0) (m := m) fun h => h.2.2.1 hz)
      rw [HX.out.1, HX.out.2]
      have HM : Hid (m = []) := Lib.hid (List.eq_nil_of_length_eq_zero hz)
      have ez : ((m.length : Int) == 0) = true := by simp [HM.out]
      clear hp hz HX
      go_enter Tryd.func28, Tryd.ntmps28
      go_wp2_with fail
      refine (arePolys_c f w.heap.size a a2 l m cap cap2 _ hn hn2 (HS.out.keep (BA.out _)) (HS2.out.keep (BA.out _)) (ht.below (BA.out _)) (cell_two _ _ _ _).1 (cell_two _ _ _ _).2).mono ?_
      rintro e w' ⟨rfl, rfl⟩
      rw [HB.out]
      go_wp2
      go_ret2
      exact ⟨none, 0, rfl, OwnA.nil rfl, BA.out _⟩
    · have ez : ((m.length : Int) == 0) = false := by simp; intro h; exact hz (by rw [h]; rfl)
      by_cases e1 : e0 < 0
      · have HX := Lib.hid (powm_off (f := f) (l := l) (e := e0) (m := m) fun h => by have := h.2.2.2.1; omega)
        rw [HX.out.1, HX.out.2]
        clear hp hz HX
        go_enter Tryd.func28, Tryd.ntmps28
        go_wp2_with fail
        refine (arePolys_c f w.heap.size a a2 l m cap cap2 _ hn hn2 (HS.out.keep (BA.out _)) (HS2.out.keep (BA.out _)) (ht.below (BA.out _)) (cell_two _ _ _ _).1 (cell_two _ _ _ _).2).mono ?_
        rintro e w' ⟨rfl, rfl⟩
        rw [HB.out]
        go_wp2
        go_ret2
        exact ⟨none, 0, rfl, OwnA.nil rfl, BA.out _⟩
      · have d1 : decide (e0 < 0) = false := decide_eq_false e1
        by_cases e2 : 1000000 < e0
        · have HX := Lib.hid (powm_off (f := f) (l := l) (e := e0) (m := m) fun h => by have := h.2.2.2.2; omega)
          rw [HX.out.1, HX.out.2]
          clear hp hz HX
          go_enter Tryd.func28, Tryd.ntmps28
          go_wp2_with fail
          refine (arePolys_c f w.heap.size a a2 l m cap cap2 _ hn hn2 (HS.out.keep (BA.out _)) (HS2.out.keep (BA.out _)) (ht.below (BA.out _)) (cell_two _ _ _ _).1 (cell_two _ _ _ _).2).mono ?_
          rintro e w' ⟨rfl, rfl⟩
          rw [HB.out]
          go_wp2
          go_ret2
          exact ⟨none, 0, rfl, OwnA.nil rfl, BA.out _⟩
        · have d2 : decide (1000000 < e0) = false := decide_eq_false e2
          have HX := Lib.hid (powm_on (f := f) (l := l) (e := e0) (m := m) ⟨hp.1, hp.2, hz, by omega, by omega⟩)
          rw [HX.out.1, HX.out.2]
          clear hp HX
          go_enter Tryd.func28, Tryd.ntmps28
          go_wp2_with fail
          refine (arePolys_c f w.heap.size a a2 l m cap cap2 _ hn hn2 (HS.out.keep (BA.out _)) (HS2.out.keep (BA.out _)) (ht.below (BA.out _)) (cell_two _ _ _ _).1 (cell_two _ _ _ _).2).mono ?_
          rintro e w' ⟨rfl, rfl⟩
          rw [HB.out]
          go_wp2_with fail
          refine (pow_c f e0 a a2 l m cap cap2 _ (ht.below (BA.out _)) HP.out.1.1.1 HP.out.1.1.2 HP.out.1.2.1 HP.out.2.2.1 hz (by omega) (by omega) HP.out.1.2.2 HP.out.2.2.2 (HS.out.keep (BA.out _)) (HS2.out.keep (BA.out _))).mono ?_
          rintro e w2 ho
          obtain ⟨g, rfl, hg, hO, hB⟩ := ho.up (BA.out _)
          have HO := Lib.hid hO
          clear hO ho
          go_wp2
          go_ret2
          exact OwnG.finishB hg HO.out hB
  · have HB : Hid ((mPolyOk f l && mPolyOk f m) = false) := Lib.hid (by
      by_cases h1 : PolOk f l
      · rw [pok_not.2 fun h => hp ⟨h1, h⟩, Bool.and_false]
      · rw [pok_not.2 h1, Bool.false_and])
    have HX := Lib.hid (powm_off (f := f) (l := l) (e := e0) (m := m) fun h => hp ⟨h.1, h.2.1⟩)
    rw [HX.out.1, HX.out.2]
    clear hp HX
    go_enter Tryd.func28, Tryd.ntmps28
    go_wp2_with fail
    refine (arePolys_c f w.heap.size a a2 l m cap cap2 _ hn hn2 (HS.out.keep (BA.out _)) (HS2.out.keep (BA.out _)) (ht.below (BA.out _)) (cell_two _ _ _ _).1 (cell_two _ _ _ _).2).mono ?_
    rintro e w' ⟨rfl, rfl⟩
    rw [HB.out]
    go_wp2
    go_ret2
    exact ⟨none, 0, rfl, OwnA.nil rfl, BA.out _⟩
end Go.Proofs.YtoohhcfanllhmaaDoor
