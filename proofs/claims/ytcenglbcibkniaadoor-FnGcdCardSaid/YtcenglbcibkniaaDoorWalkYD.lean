/-
  Sums, multiples and derivatives of polynomials, the program's.
-/
import Derived.Test.YtcenglbcibkniaaDoorWalkYB
import Derived.BigQuiet
import Derived.StillTailTactics
namespace Go.Proofs.YtcenglbcibkniaaDoor
open Go.RowKit
theorem poly_own {g n : Nat} {F G : Nat → Int} {u w : World} (hn : n ≤ 1048576) (h : Own w g n F) (e : ∀ j, j < n → F j = G j) (hb : Below u.heap.size u w) : Calls Tryd.prog 59 #[.slice (some ⟨g, 0, none⟩) n n] w (OwnG u (cutL n G)) :=
  (poly_c (some ⟨g, 0, none⟩) n n G w hn (own_congr h rfl e).src).mono fun _ _ h => h.up hb
set_option maxRecDepth 100000 in
set_option maxHeartbeats 1600000 in
theorem scaled_some (f c : Int) (b off n cap : Nat) (F : Nat → Int) (w : World) (ht : Tab w) (h0 : 0 ≤ f) (h8 : f ≤ 8) (hn : n ≤ 1048576) (c0 : 0 ≤ c) (c1 : c < P f) (hF : ∀ j, 0 ≤ F j ∧ F j < P f) (hlt : b < w.heap.size) (hc : ∀ j, j < n → w.cell? ⟨b, off + j, none⟩ = some (.int .i64 (F j))) :
    Calls Tryd.prog 65 #[.int .i64 f, .slice (some ⟨b, off, none⟩) n cap, .int .i64 c] w (OwnG w (cutL n (fun j => RS (F j * c) (P f)))) := by
  have HC := Lib.hid hc
  have HF := Lib.hid hF
  clear hc hF
  have hmk := made_n n hn
  go_enter Tryd.func65, Tryd.ntmps65
  go_wp2_with fail
  clear hmk
  go_loopw [8, 9, 15] (fun _ _ i wr => ∃ k : Nat, i = .int .i64 k ∧ k ≤ n ∧ Own wr w.heap.size n (fun j => if j < k then RS (F j * c) (P f) else 0) ∧ Below w.heap.size w wr) (fun _ _ i _ => n - (intOf i).toNat)
  case atStart =>
    refine ⟨0, rfl, Nat.zero_le _, ?_, (Below.refl _ _).alloc (Nat.le_refl _) _⟩
    exact (World.rowIs_made w (.int .i64 0) n 3).congr fun j _ => by simp
  case round =>
    obtain ⟨k, rfl, hk, ho, hb⟩ := hrel
    by_cases h1 : k < n
    · have d1 : wr.cell? ⟨b, off + k, none⟩ = some (.int .i64 (F k)) := (hb.cell (p := ⟨b, off + k, none⟩) hlt).trans (HC.out k h1)
      have c2 := World.rowIs.cell ho h1
      have c3 := World.rowIs.frozen ho k
      have HT := Lib.hid (ht.below hb)
      have bF := HF.out k
      have HS := Lib.hid (own_step (F := fun j => RS (F j * c) (P f)) ho)
      go_wp2_with fail
      refine (mul_c f (F k) c wr HT.out h0 h8 bF.1 bF.2 c0 c1).mono ?_
      rintro e w' ⟨rfl, rfl⟩
      go_wp2
      go_roundw
      case rel => exact ⟨k + 1, by go_num, by omega, HS.out, hb.setCell (Nat.le_refl _) _⟩
      case measure => simp [intOf]; omega
    · have hd : decide (k < n) = false := by simpa using h1
      obtain rfl : k = n := by omega
      go_wp2_with fail
      refine (poly_own (G := fun j => RS (F j * c) (P f)) hn ho (fun j hj => by simp [hj]) hb).mono ?_
      rintro e w2 ⟨g, rfl, hg, hO, hB⟩
      have HO := Lib.hid hO
      clear hO ho
      go_wp2
      go_ret
      exact ⟨g, rfl, hg, HO.out, hB⟩
theorem scaled_none (f c : Int) (a : Option Addr) (cap : Nat) (F : Nat → Int) (w : World) : Calls Tryd.prog 65 #[.int .i64 f, .slice a 0 cap, .int .i64 c] w (OwnG w (cutL 0 F)) := by
  have hmk := made0
  go_enter Tryd.func65, Tryd.ntmps65
  go_wp2
  refine wp_loop_rounds 1 ?_
  rw [rounds_succ]
  clear hmk
  go_wp2_with fail
  refine (poly_own (n := 0) (G := F) (by omega) (World.rowIs_made w (.int .i64 0) 0 3) (fun j hj => by omega) ((Below.refl _ _).alloc (Nat.le_refl _) _)).mono ?_
  rintro e w2 ⟨g, rfl, hg, hO, hB⟩
  have HO := Lib.hid hO
  clear hO
  go_wp2
  go_ret
  exact ⟨g, rfl, hg, HO.out, hB⟩
theorem scaled_c (f c : Int) (a : Option Addr) (l : List Int) (cap : Nat) (w : World) (ht : Tab w) (h0 : 0 ≤ f) (h8 : f ≤ 8) (hn : l.length ≤ 1048576) (c0 : 0 ≤ c) (c1 : c < P f) (hl : Pol f l) (hs : Src w a l.length (lf l)) :
    Calls Tryd.prog 65 #[.int .i64 f, .slice a l.length cap, .int .i64 c] w (OwnG w (scaleL f l c)) := by
  rcases hs with hz | ⟨b, off, rfl, hlt, hc⟩
  · have e : scaleL f l c = cutL 0 (fun j => RS (lf l j * c) (P f)) := by unfold scaleL; rw [hz]
    rw [e, hz]
    exact scaled_none f c a cap _ w
  · exact scaled_some f c b off l.length cap (lf l) w ht h0 h8 hn c0 c1 hl.1 hlt hc
theorem cut_self {f : Int} {l : List Int} (h : Pol f l) : cutL l.length (lf l) = l := by unfold cutL; rw [h.full, tab_lf]
theorem sum_set {f : Int} {wr : World} {g n k : Nat} {A B : Nat → Int} (h : Own wr g n (fun j => if j < k then RS (A j + B j) (P f) else A j)) : Own (wr.setCell ⟨g, k, none⟩ (.int .i64 (RS (A k + B k) (P f)))) g n (fun j => if j < k + 1 then RS (A j + B j) (P f) else A j) := by
  refine (World.rowIs.set h k (.int .i64 (RS (A k + B k) (P f)))).congr fun j _ => ?_
  by_cases h1 : j = k
  · subst h1; simp
  · by_cases h2 : j < k
    · simp [h1, h2, show j < k + 1 by omega]
    · simp [h1, h2, show ¬ j < k + 1 by omega]
/-- The rest of the sum, from the loop on: a is the longer. -/
theorem sum_end {f : Int} {a b : List Int} (ha : Pol f a) (hle : b.length ≤ a.length) (j : Nat) : (if j < b.length then RS (lf a j + lf b j) (P f) else lf a j) = RS (lf a j + lf b j) (P f) := by
  split
  · rfl
  · have := ha.1 j
    rw [lf_out b (by omega), Int.add_zero, RS_self this.1 this.2]
set_option maxRecDepth 100000 in
set_option maxHeartbeats 3200000 in
theorem sum_ge (f : Int) (a a2 : Option Addr) (l m : List Int) (cap cap2 : Nat) (w : World) (ht : Tab w) (h0 : 0 ≤ f) (h8 : f ≤ 8) (hn : l.length ≤ 1048576) (hle : m.length ≤ l.length) (hl : Pol f l) (hm : Pol f m) (hs : Src w a l.length (lf l)) (hs2 : Src w a2 m.length (lf m)) :
    Calls Tryd.prog 34 #[.int .i64 f, .slice a l.length cap, .slice a2 m.length cap2] w (OwnG w (addL f l m)) := by
  have hd : decide ((l.length : Int) < m.length) = false := by simp; omega
  have HP := poly_c a l.length cap (lf l) w hn hs
  rw [cut_self hl] at HP
  have HL := Lib.hid hl.1
  have HM := Lib.hid hm.1
  have HE : Hid (∀ j, (if j < m.length then RS (lf l j + lf m j) (P f) else lf l j) = RS (lf l j + lf m j) (P f)) := Lib.hid (sum_end hl hle)
  have HA : Hid (addL f l m = cutL l.length (fun j => RS (lf l j + lf m j) (P f))) := Lib.hid (by unfold addL; rw [Nat.max_eq_left hle])
  rcases hs2 with hz | ⟨b2, off2, rfl, hlt2, hc2⟩
  · rw [hz] at hd HE ⊢
    clear hs
    go_enter Tryd.func34, Tryd.ntmps34
    go_wp2_with fail
    refine HP.mono ?_
    rintro e w1 ⟨g, rfl, hg, hO, hB⟩
    have HO := Lib.hid hO
    clear hO HP
    go_wp2
    refine wp_loop_rounds 1 ?_
    rw [rounds_succ]
    go_wp2_with fail
    refine (poly_own hn HO.out (fun j hj => by have := HE.out j; simpa using this) hB).mono ?_
    rintro e w2 ⟨g2, rfl, hg2, hO2, hB2⟩
    have HO2 : Hid (Own w2 g2 (addL f l m).length (lf (addL f l m))) := Lib.hid (by rw [HA.out]; exact hO2)
    rw [← HA.out] at *
    clear hO2
    go_wp2
    go_ret
    exact ⟨g2, rfl, hg2, HO2.out, hB2⟩
  · have HC2 := Lib.hid hc2
    clear hc2 hs
    go_enter Tryd.func34, Tryd.ntmps34
    go_wp2_with fail
    refine HP.mono ?_
    rintro e w1 ⟨g, rfl, hg, hO, hB⟩
    have HO : Hid (Own w1 g l.length (fun j => if j < 0 then RS (lf l j + lf m j) (P f) else lf l j)) := Lib.hid (own_congr hO rfl (fun j _ => by simp))
    clear hO HP
    go_wp2_with fail
    go_loopw [8, 9, 21] (fun _ _ i wr => ∃ k : Nat, i = .int .i64 k ∧ k ≤ m.length ∧ Own wr g l.length (fun j => if j < k then RS (lf l j + lf m j) (P f) else lf l j) ∧ Below w.heap.size w wr) (fun _ _ i _ => m.length - (intOf i).toNat)
    case atStart => exact ⟨0, rfl, Nat.zero_le _, HO.out, hB⟩
    case round =>
      obtain ⟨k, rfl, hk, ho, hb⟩ := hrel
      by_cases h1 : k < m.length
      · have d1 : wr.cell? ⟨b2, off2 + k, none⟩ = some (.int .i64 (lf m k)) := (hb.cell (p := ⟨b2, off2 + k, none⟩) hlt2).trans (HC2.out k h1)
        have c2 := World.rowIs.cell ho (show k < l.length by omega)
        simp only [Nat.lt_irrefl, if_false] at c2
        have c3 := World.rowIs.frozen ho k
        have HT := Lib.hid (ht.below hb)
        have bF := HL.out k
        have bM := HM.out k
        have HS := Lib.hid (sum_set ho)
        have hkl : k < l.length := by omega
        go_wp2_with fail
        refine (add_c f (lf l k) (lf m k) wr HT.out h0 h8 bF.1 bF.2 bM.1 bM.2).mono ?_
        rintro e w' ⟨rfl, rfl⟩
        go_wp2
        go_roundw
        case rel => exact ⟨k + 1, by go_num, by omega, HS.out, hb.setCell hg _⟩
        case measure => simp [intOf]; omega
      · have hd1 : decide (k < m.length) = false := by simpa using h1
        obtain rfl : k = m.length := by omega
        go_wp2_with fail
        refine (poly_own hn ho (fun j _ => HE.out j) hb).mono ?_
        rw [← HA.out]
        rintro e w2 ⟨g2, rfl, hg2, hO2, hB2⟩
        have HO2 := Lib.hid hO2
        clear hO2 ho
        go_wp2
        go_ret
        exact ⟨g2, rfl, hg2, HO2.out, hB2⟩
set_option maxRecDepth 100000 in
set_option maxHeartbeats 3200000 in
theorem sum_lt (f : Int) (a a2 : Option Addr) (l m : List Int) (cap cap2 : Nat) (w : World) (ht : Tab w) (h0 : 0 ≤ f) (h8 : f ≤ 8) (hn : l.length ≤ 1048576) (hlt : m.length < l.length) (hl : Pol f l) (hm : Pol f m) (hs : Src w a l.length (lf l)) (hs2 : Src w a2 m.length (lf m)) :
    Calls Tryd.prog 34 #[.int .i64 f, .slice a2 m.length cap2, .slice a l.length cap] w (OwnG w (addL f l m)) := by
  have hle : m.length ≤ l.length := by omega
  have hd : decide ((m.length : Int) < l.length) = true := by simp; omega
  have HP := poly_c a l.length cap (lf l) w hn hs
  rw [cut_self hl] at HP
  have HL := Lib.hid hl.1
  have HM := Lib.hid hm.1
  have HE : Hid (∀ j, (if j < m.length then RS (lf l j + lf m j) (P f) else lf l j) = RS (lf l j + lf m j) (P f)) := Lib.hid (sum_end hl hle)
  have HA : Hid (addL f l m = cutL l.length (fun j => RS (lf l j + lf m j) (P f))) := Lib.hid (by unfold addL; rw [Nat.max_eq_left hle])
  rcases hs2 with hz | ⟨b2, off2, rfl, hlt2, hc2⟩
  · rw [hz] at hd HE ⊢
    clear hs
    go_enter Tryd.func34, Tryd.ntmps34
    go_wp2_with fail
    refine HP.mono ?_
    rintro e w1 ⟨g, rfl, hg, hO, hB⟩
    have HO := Lib.hid hO
    clear hO HP
    go_wp2
    refine wp_loop_rounds 1 ?_
    rw [rounds_succ]
    go_wp2_with fail
    refine (poly_own hn HO.out (fun j hj => by have := HE.out j; simpa using this) hB).mono ?_
    rintro e w2 ⟨g2, rfl, hg2, hO2, hB2⟩
    have HO2 : Hid (Own w2 g2 (addL f l m).length (lf (addL f l m))) := Lib.hid (by rw [HA.out]; exact hO2)
    rw [← HA.out] at *
    clear hO2
    go_wp2
    go_ret
    exact ⟨g2, rfl, hg2, HO2.out, hB2⟩
  · have HC2 := Lib.hid hc2
    clear hc2 hs
    go_enter Tryd.func34, Tryd.ntmps34
    go_wp2_with fail
    refine HP.mono ?_
    rintro e w1 ⟨g, rfl, hg, hO, hB⟩
    have HO : Hid (Own w1 g l.length (fun j => if j < 0 then RS (lf l j + lf m j) (P f) else lf l j)) := Lib.hid (own_congr hO rfl (fun j _ => by simp))
    clear hO HP
    go_wp2_with fail
    go_loopw [8, 9, 21] (fun _ _ i wr => ∃ k : Nat, i = .int .i64 k ∧ k ≤ m.length ∧ Own wr g l.length (fun j => if j < k then RS (lf l j + lf m j) (P f) else lf l j) ∧ Below w.heap.size w wr) (fun _ _ i _ => m.length - (intOf i).toNat)
    case atStart => exact ⟨0, rfl, Nat.zero_le _, HO.out, hB⟩
    case round =>
      obtain ⟨k, rfl, hk, ho, hb⟩ := hrel
      by_cases h1 : k < m.length
      · have d1 : wr.cell? ⟨b2, off2 + k, none⟩ = some (.int .i64 (lf m k)) := (hb.cell (p := ⟨b2, off2 + k, none⟩) hlt2).trans (HC2.out k h1)
        have c2 := World.rowIs.cell ho (show k < l.length by omega)
        simp only [Nat.lt_irrefl, if_false] at c2
        have c3 := World.rowIs.frozen ho k
        have HT := Lib.hid (ht.below hb)
        have bF := HL.out k
        have bM := HM.out k
        have HS := Lib.hid (sum_set ho)
        have hkl : k < l.length := by omega
        go_wp2_with fail
        refine (add_c f (lf l k) (lf m k) wr HT.out h0 h8 bF.1 bF.2 bM.1 bM.2).mono ?_
        rintro e w' ⟨rfl, rfl⟩
        go_wp2
        go_roundw
        case rel => exact ⟨k + 1, by go_num, by omega, HS.out, hb.setCell hg _⟩
        case measure => simp [intOf]; omega
      · have hd1 : decide (k < m.length) = false := by simpa using h1
        obtain rfl : k = m.length := by omega
        go_wp2_with fail
        refine (poly_own hn ho (fun j _ => HE.out j) hb).mono ?_
        rw [← HA.out]
        rintro e w2 ⟨g2, rfl, hg2, hO2, hB2⟩
        have HO2 := Lib.hid hO2
        clear hO2 ho
        go_wp2
        go_ret
        exact ⟨g2, rfl, hg2, HO2.out, hB2⟩
theorem addL_comm (f : Int) (a b : List Int) : addL f a b = addL f b a := by
  unfold addL
  rw [Nat.max_comm]
  exact cutL_congr fun j _ => by rw [Int.add_comm]
theorem sum_c (f : Int) (a a2 : Option Addr) (l m : List Int) (cap cap2 : Nat) (w : World) (ht : Tab w) (h0 : 0 ≤ f) (h8 : f ≤ 8) (hn : l.length ≤ 1048576) (hn2 : m.length ≤ 1048576) (hl : Pol f l) (hm : Pol f m) (hs : Src w a l.length (lf l)) (hs2 : Src w a2 m.length (lf m)) :
    Calls Tryd.prog 34 #[.int .i64 f, .slice a l.length cap, .slice a2 m.length cap2] w (OwnG w (addL f l m)) := by
  by_cases h : m.length ≤ l.length
  · exact sum_ge f a a2 l m cap cap2 w ht h0 h8 hn h hl hm hs hs2
  · rw [addL_comm]
    exact sum_lt f a2 a m l cap2 cap w ht h0 h8 hn2 (by omega) hm hl hs2 hs
end Go.Proofs.YtcenglbcibkniaaDoor
