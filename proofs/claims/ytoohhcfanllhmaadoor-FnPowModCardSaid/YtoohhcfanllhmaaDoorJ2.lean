/-
  Texts of the proofs of this seat, joined (part 2).
-/
import Derived.BigQuiet
import Derived.StillTailTactics
import Derived.Test.YtoohhcfanllhmaaDoorJ1
namespace Go.Proofs.YtoohhcfanllhmaaDoor
open Go.RowKit
theorem poly_own {g n : Nat} {F G : Nat → Int} {u w : World} (hn : n ≤ 1048576) (h : Own w g n F) (e : ∀ j, j < n → F j = G j) (hb : Below u.heap.size u w) : Calls Tryd.prog 59 #[.slice (some ⟨g, 0, none⟩) n n] w (OwnG u (cutL n G)) :=
  (poly_c (some ⟨g, 0, none⟩) n n G w hn (own_congr h rfl e).src).mono fun _ _ h => h.up hb
set_option maxRecDepth 100000 in
set_option maxHeartbeats 1600000 in
theorem scaled_some (f c : Int) (b off n cap : Nat) (F : Nat → Int) (w : World) (ht : Tab w) (h0 : 0 ≤ f) (h8 : f ≤ 8) (hn : n ≤ 1048576) (c0 : 0 ≤ c) (c1 : c < P f) (hF : ∀ j, 0 ≤ F j ∧ F j < P f) (hlt : b < w.heap.size) (hc : ∀ j, j < n → w.cell? ⟨b, off + j, none⟩ = some (.int .i64 (F j))) :
    Calls Tryd.prog 65 #[.int .i64 f, .slice (some ⟨b, off, none⟩) n cap, .int .i64 c] w (OwnG w (cutL n (fun j => RS (F j * c) (P f)))) := by
  have HC := Lib.hid hc
  have HF := Lib.hid hF
  clear hc hF
  have hmk := made_n n hn
  go_enter Tryd.func65, Tryd.ntmps65
  go_wp2_with fail
  clear hmk
  go_loopw [8, 9, 15] (fun _ _ i wr => ∃ k : Nat, i = .int .i64 k ∧ k ≤ n ∧ Own wr w.heap.size n (fun j => if j < k then RS (F j * c) (P f) else 0) ∧ Below w.heap.size w wr) (fun _ _ i _ => n - (intOf i).toNat)
  case atStart =>
    refine ⟨0, rfl, Nat.zero_le _, ?_, (Below.refl _ _).alloc (Nat.le_refl _) _⟩
    exact (World.rowIs_made w (.int .i64 0) n 3).congr fun j _ => by simp
  case round =>
    obtain ⟨k, rfl, hk, ho, hb⟩ := hrel
    by_cases h1 : k < n
    · have d1 : wr.cell? ⟨b, off + k, none⟩ = some (.int .i64 (F k)) := (hb.cell (p := ⟨b, off + k, none⟩) hlt).trans (HC.out k h1)
      have c2 := World.rowIs.cell ho h1
      have c3 := World.rowIs.frozen ho k
      have HT := Lib.hid (ht.below hb)
      have bF := HF.out k
      have HS := Lib.hid (own_step (F := fun j => RS (F j * c) (P f)) ho)
      go_wp2_with fail
      refine (mul_c f (F k) c wr HT.out h0 h8 bF.1 bF.2 c0 c1).mono ?_
      rintro e w' ⟨rfl, rfl⟩
      go_wp2
      go_roundw
      case rel => exact ⟨k + 1, by go_num, by omega, HS.out, hb.setCell (Nat.le_refl _) _⟩
      case measure => simp [intOf]; omega
    · have hd : decide (k < n) = false := by simpa using h1
      obtain rfl : k = n := by omega
      go_wp2_with fail
      refine (poly_own (G := fun j => RS (F j * c) (P f)) hn ho (fun j hj => by simp [hj]) hb).mono ?_
      rintro e w2 ⟨g, rfl, hg, hO, hB⟩
      have HO := Lib.hid hO
      clear hO ho
      go_wp2
      go_ret
      exact ⟨g, rfl, hg, HO.out, hB⟩
theorem scaled_none (f c : Int) (a : Option Addr) (cap : Nat) (F : Nat → Int) (w : World) : Calls Tryd.prog 65 #[.int .i64 f, .slice a 0 cap, .int .i64 c] w (OwnG w (cutL 0 F)) := by
  have hmk := made0
  go_enter Tryd.func65, Tryd.ntmps65
  go_wp2
  refine wp_loop_rounds 1 ?_
  rw [rounds_succ]
  clear hmk
  go_wp2_with fail
  refine (poly_own (n := 0) (G := F) (by omega) (World.rowIs_made w (.int .i64 0) 0 3) (fun j hj => by omega) ((Below.refl _ _).alloc (Nat.le_refl _) _)).mono ?_
  rintro e w2 ⟨g, rfl, hg, hO, hB⟩
  have HO := Lib.hid hO
  clear hO
  go_wp2
  go_ret
  exact ⟨g, rfl, hg, HO.out, hB⟩
theorem scaled_c (f c : Int) (a : Option Addr) (l : List Int) (cap : Nat) (w : World) (ht : Tab w) (h0 : 0 ≤ f) (h8 : f ≤ 8) (hn : l.length ≤ 1048576) (c0 : 0 ≤ c) (c1 : c < P f) (hl : Pol f l) (hs : Src w a l.length (lf l)) :
    Calls Tryd.prog 65 #[.int .i64 f, .slice a l.length cap, .int .i64 c] w (OwnG w (scaleL f l c)) := by
  rcases hs with hz | ⟨b, off, rfl, hlt, hc⟩
  · have e : scaleL f l c = cutL 0 (fun j => RS (lf l j * c) (P f)) := by unfold scaleL; rw [hz]
    rw [e, hz]
    exact scaled_none f c a cap _ w
  · exact scaled_some f c b off l.length cap (lf l) w ht h0 h8 hn c0 c1 hl.1 hlt hc
theorem cut_self {f : Int} {l : List Int} (h : Pol f l) : cutL l.length (lf l) = l := by unfold cutL; rw [h.full, tab_lf]
theorem sum_set {f : Int} {wr : World} {g n k : Nat} {A B : Nat → Int} (h : Own wr g n (fun j => if j < k then RS (A j + B j) (P f) else A j)) : Own (wr.setCell ⟨g, k, none⟩ (.int .i64 (RS (A k + B k) (P f)))) g n (fun j => if j < k + 1 then RS (A j + B j) (P f) else A j) := by
  refine (World.rowIs.set h k (.int .i64 (RS (A k + B k) (P f)))).congr fun j _ => ?_
  by_cases h1 : j = k
  · subst h1; simp
  · by_cases h2 : j < k
    · simp [h1, h2, show j < k + 1 by omega]
    · simp [h1, h2, show ¬ j < k + 1 by omega]
/-- The rest of the sum, from the loop on: a is the longer. -/
theorem sum_end {f : Int} {a b : List Int} (ha : Pol f a) (_hle : b.length ≤ a.length) (j : Nat) : (if j < b.length then RS (lf a j + lf b j) (P f) else lf a j) = RS (lf a j + lf b j) (P f) := by
  split
  · rfl
  · have := ha.1 j
    rw [lf_out b (by omega), Int.add_zero, RS_self this.1 this.2]
set_option maxRecDepth 100000 in
set_option maxHeartbeats 3200000 in
theorem sum_ge (f : Int) (a a2 : Option Addr) (l m : List Int) (cap cap2 : Nat) (w : World) (ht : Tab w) (h0 : 0 ≤ f) (h8 : f ≤ 8) (hn : l.length ≤ 1048576) (hle : m.length ≤ l.length) (hl : Pol f l) (hm : Pol f m) (hs : Src w a l.length (lf l)) (hs2 : Src w a2 m.length (lf m)) :
    Calls Tryd.prog 34 #[.int .i64 f, .slice a l.length cap, .slice a2 m.length cap2] w (OwnG w (addL f l m)) := by
  have hd : decide ((l.length : Int) < m.length) = false := by simp; omega
  have HP := poly_c a l.length cap (lf l) w hn hs
  rw [cut_self hl] at HP
  have HL := Lib.hid hl.1
  have HM := Lib.hid hm.1
  have HE : Hid (∀ j, (if j < m.length then RS (lf l j + lf m j) (P f) else lf l j) = RS (lf l j + lf m j) (P f)) := Lib.hid (sum_end hl hle)
  have HA : Hid (addL f l m = cutL l.length (fun j => RS (lf l j + lf m j) (P f))) := Lib.hid (by unfold addL; rw [Nat.max_eq_left hle])
  rcases hs2 with hz | ⟨b2, off2, rfl, hlt2, hc2⟩
  · rw [hz] at hd HE ⊢
    clear hs
    go_enter Tryd.func34, Tryd.ntmps34
    go_wp2_with fail
    refine HP.mono ?_
    rintro e w1 ⟨g, rfl, hg, hO, hB⟩
    have HO := Lib.hid hO
    clear hO HP
    go_wp2
    refine wp_loop_rounds 1 ?_
    rw [rounds_succ]
    go_wp2_with fail
    refine (poly_own hn HO.out (fun j hj => by have := HE.out j; simpa using this) hB).mono ?_
    rintro e w2 ⟨g2, rfl, hg2, hO2, hB2⟩
    have HO2 : Hid (Own w2 g2 (addL f l m).length (lf (addL f l m))) := Lib.hid (by rw [HA.out]; exact hO2)
    rw [← HA.out] at *
    clear hO2
    go_wp2
    go_ret
    exact ⟨g2, rfl, hg2, HO2.out, hB2⟩
  · have HC2 := Lib.hid hc2
    clear hc2 hs
    go_enter Tryd.func34, Tryd.ntmps34
    go_wp2_with fail
    refine HP.mono ?_
    rintro e w1 ⟨g, rfl, hg, hO, hB⟩
    have HO : Hid (Own w1 g l.length (fun j => if j < 0 then RS (lf l j + lf m j) (P f) else lf l j)) := Lib.hid (own_congr hO rfl (fun j _ => by simp))
    clear hO HP
    go_wp2_with fail
    go_loopw [8, 9, 21] (fun _ _ i wr => ∃ k : Nat, i = .int .i64 k ∧ k ≤ m.length ∧ Own wr g l.length (fun j => if j < k then RS (lf l j + lf m j) (P f) else lf l j) ∧ Below w.heap.size w wr) (fun _ _ i _ => m.length - (intOf i).toNat)
    case atStart => exact ⟨0, rfl, Nat.zero_le _, HO.out, hB⟩
    case round =>
      obtain ⟨k, rfl, hk, ho, hb⟩ := hrel
      by_cases h1 : k < m.length
      · have d1 : wr.cell? ⟨b2, off2 + k, none⟩ = some (.int .i64 (lf m k)) := (hb.cell (p := ⟨b2, off2 + k, none⟩) hlt2).trans (HC2.out k h1)
        have c2 := World.rowIs.cell ho (show k < l.length by omega)
        simp only [Nat.lt_irrefl, if_false] at c2
        have c3 := World.rowIs.frozen ho k
        have HT := Lib.hid (ht.below hb)
        have bF := HL.out k
        have bM := HM.out k
        have HS := Lib.hid (sum_set ho)
        have hkl : k < l.length := by omega
        go_wp2_with fail
        refine (add_c f (lf l k) (lf m k) wr HT.out h0 h8 bF.1 bF.2 bM.1 bM.2).mono ?_
        rintro e w' ⟨rfl, rfl⟩
        go_wp2
        go_roundw
        case rel => exact ⟨k + 1, by go_num, by omega, HS.out, hb.setCell hg _⟩
        case measure => simp [intOf]; omega
      · have hd1 : decide (k < m.length) = false := by simpa using h1
        obtain rfl : k = m.length := by omega
        go_wp2_with fail
        refine (poly_own hn ho (fun j _ => HE.out j) hb).mono ?_
        rw [← HA.out]
        rintro e w2 ⟨g2, rfl, hg2, hO2, hB2⟩
        have HO2 := Lib.hid hO2
        clear hO2 ho
        go_wp2
        go_ret
        exact ⟨g2, rfl, hg2, HO2.out, hB2⟩
set_option maxRecDepth 100000 in
set_option maxHeartbeats 3200000 in
theorem sum_lt (f : Int) (a a2 : Option Addr) (l m : List Int) (cap cap2 : Nat) (w : World) (ht : Tab w) (h0 : 0 ≤ f) (h8 : f ≤ 8) (hn : l.length ≤ 1048576) (hlt : m.length < l.length) (hl : Pol f l) (hm : Pol f m) (hs : Src w a l.length (lf l)) (hs2 : Src w a2 m.length (lf m)) :
    Calls Tryd.prog 34 #[.int .i64 f, .slice a2 m.length cap2, .slice a l.length cap] w (OwnG w (addL f l m)) := by
  have hle : m.length ≤ l.length := by omega
  have hd : decide ((m.length : Int) < l.length) = true := by simp; omega
  have HP := poly_c a l.length cap (lf l) w hn hs
  rw [cut_self hl] at HP
  have HL := Lib.hid hl.1
  have HM := Lib.hid hm.1
  have HE : Hid (∀ j, (if j < m.length then RS (lf l j + lf m j) (P f) else lf l j) = RS (lf l j + lf m j) (P f)) := Lib.hid (sum_end hl hle)
  have HA : Hid (addL f l m = cutL l.length (fun j => RS (lf l j + lf m j) (P f))) := Lib.hid (by unfold addL; rw [Nat.max_eq_left hle])
  rcases hs2 with hz | ⟨b2, off2, rfl, hlt2, hc2⟩
  · rw [hz] at hd HE ⊢
    clear hs
    go_enter Tryd.func34, Tryd.ntmps34
    go_wp2_with fail
    refine HP.mono ?_
    rintro e w1 ⟨g, rfl, hg, hO, hB⟩
    have HO := Lib.hid hO
    clear hO HP
    go_wp2
    refine wp_loop_rounds 1 ?_
    rw [rounds_succ]
    go_wp2_with fail
    refine (poly_own hn HO.out (fun j hj => by have := HE.out j; simpa using this) hB).mono ?_
    rintro e w2 ⟨g2, rfl, hg2, hO2, hB2⟩
    have HO2 : Hid (Own w2 g2 (addL f l m).length (lf (addL f l m))) := Lib.hid (by rw [HA.out]; exact hO2)
    rw [← HA.out] at *
    clear hO2
    go_wp2
    go_ret
    exact ⟨g2, rfl, hg2, HO2.out, hB2⟩
  · have HC2 := Lib.hid hc2
    clear hc2 hs
    go_enter Tryd.func34, Tryd.ntmps34
    go_wp2_with fail
    refine HP.mono ?_
    rintro e w1 ⟨g, rfl, hg, hO, hB⟩
    have HO : Hid (Own w1 g l.length (fun j => if j < 0 then RS (lf l j + lf m j) (P f) else lf l j)) := Lib.hid (own_congr hO rfl (fun j _ => by simp))
    clear hO HP
    go_wp2_with fail
    go_loopw [8, 9, 21] (fun _ _ i wr => ∃ k : Nat, i = .int .i64 k ∧ k ≤ m.length ∧ Own wr g l.length (fun j => if j < k then RS (lf l j + lf m j) (P f) else lf l j) ∧ Below w.heap.size w wr) (fun _ _ i _ => m.length - (intOf i).toNat)
    case atStart => exact ⟨0, rfl, Nat.zero_le _, HO.out, hB⟩
    case round =>
      obtain ⟨k, rfl, hk, ho, hb⟩ := hrel
      by_cases h1 : k < m.length
      · have d1 : wr.cell? ⟨b2, off2 + k, none⟩ = some (.int .i64 (lf m k)) := (hb.cell (p := ⟨b2, off2 + k, none⟩) hlt2).trans (HC2.out k h1)
        have c2 := World.rowIs.cell ho (show k < l.length by omega)
        simp only [Nat.lt_irrefl, if_false] at c2
        have c3 := World.rowIs.frozen ho k
        have HT := Lib.hid (ht.below hb)
        have bF := HL.out k
        have bM := HM.out k
        have HS := Lib.hid (sum_set ho)
        have hkl : k < l.length := by omega
        go_wp2_with fail
        refine (add_c f (lf l k) (lf m k) wr HT.out h0 h8 bF.1 bF.2 bM.1 bM.2).mono ?_
        rintro e w' ⟨rfl, rfl⟩
        go_wp2
        go_roundw
        case rel => exact ⟨k + 1, by go_num, by omega, HS.out, hb.setCell hg _⟩
        case measure => simp [intOf]; omega
      · have hd1 : decide (k < m.length) = false := by simpa using h1
        obtain rfl : k = m.length := by omega
        go_wp2_with fail
        refine (poly_own hn ho (fun j _ => HE.out j) hb).mono ?_
        rw [← HA.out]
        rintro e w2 ⟨g2, rfl, hg2, hO2, hB2⟩
        have HO2 := Lib.hid hO2
        clear hO2 ho
        go_wp2
        go_ret
        exact ⟨g2, rfl, hg2, HO2.out, hB2⟩
theorem addL_comm (f : Int) (a b : List Int) : addL f a b = addL f b a := by
  unfold addL
  rw [Nat.max_comm]
  exact cutL_congr fun j _ => by rw [Int.add_comm]
theorem sum_c (f : Int) (a a2 : Option Addr) (l m : List Int) (cap cap2 : Nat) (w : World) (ht : Tab w) (h0 : 0 ≤ f) (h8 : f ≤ 8) (hn : l.length ≤ 1048576) (hn2 : m.length ≤ 1048576) (hl : Pol f l) (hm : Pol f m) (hs : Src w a l.length (lf l)) (hs2 : Src w a2 m.length (lf m)) :
    Calls Tryd.prog 34 #[.int .i64 f, .slice a l.length cap, .slice a2 m.length cap2] w (OwnG w (addL f l m)) := by
  by_cases h : m.length ≤ l.length
  · exact sum_ge f a a2 l m cap cap2 w ht h0 h8 hn h hl hm hs hs2
  · rw [addL_comm]
    exact sum_lt f a2 a m l cap2 cap w ht h0 h8 hn2 (by omega) hm hl hs2 hs
end Go.Proofs.YtoohhcfanllhmaaDoor
namespace Go.Proofs.YtoohhcfanllhmaaDoor
open Go.RowKit
theorem src_of_owns2 {w' : World} {base : Nat} {v : Value} {n : Nat} {F : Nat → Int} (h : w'.ownsRow base 3 1 v n (xsF F n)) : ∃ a cap, v = .slice a n cap ∧ n ≤ cap ∧ Src w' a n F := by
  obtain ⟨a, cap, hv, hs⟩ := src_of_owns h
  refine ⟨a, cap, hv, ?_, hs⟩
  obtain ⟨hl, h⟩ := h
  rcases h with ⟨h1, h2⟩ | ⟨g, cap', cur, h1, hg, hh, hc, hm, hs, ht⟩
  · rw [hv] at h1; cases h1; exact Nat.le_refl _
  · rw [hv] at h1; cases h1; exact hc
/-- A list that the call made, in a row of its own that may have room. -/
def OwnsL (w : World) (l : List Int) (e : Ending) (w' : World) : Prop := ∃ v, e = .returned v ∧ w'.ownsRow w.heap.size 3 1 v l.length (xsF (lf l) l.length) ∧ Below w.heap.size w w'
theorem OwnsL.list {w w' : World} {l : List Int} {e : Ending} (h : OwnsL w l e w') : ListL w l e w' := by
  obtain ⟨v, rfl, ho, hb⟩ := h
  obtain ⟨a, cap, rfl, _, hs⟩ := src_of_owns2 ho
  exact ⟨a, cap, rfl, hs, hb⟩
theorem owns_to {w w' : World} {n : Nat} {F : Nat → Int} {l : List Int} {v : Value} (h : w'.ownsRow w.heap.size 3 1 v n (xsF F n)) (hn : n = l.length) (e : ∀ j, j < n → F j = lf l j) (hb : Below w.heap.size w w') : OwnsL w l (.returned v) w' := by
  subst hn
  exact ⟨v, rfl, by rw [← xsF_congr e]; exact h, hb⟩
set_option maxHeartbeats 1600000 in
theorem copy_some (b off n cap : Nat) (F : Nat → Int) (w : World) (hn : n ≤ 1048576) (hlt : b < w.heap.size) (hc : ∀ j, j < n → w.cell? ⟨b, off + j, none⟩ = some (.int .i64 (F j))) :
    Calls Tryd.prog 37 #[.slice (some ⟨b, off, none⟩) n cap] w fun e w' => ∃ v, e = .returned v ∧ w'.ownsRow w.heap.size 3 1 v n (xsF F n) ∧ Below w.heap.size w w' := by
  have HC := Lib.hid hc
  clear hc
  obtain ⟨i0, hi, hz0, hz1, hz2⟩ := info_parts info3
  have HI := Lib.hid hi
  have HZ0 := Lib.hid hz0
  have HZ1 := Lib.hid hz1
  have HZ2 := Lib.hid hz2
  clear hi hz0 hz1 hz2
  go_enter Tryd.func37, Tryd.ntmps37
  go_wp2_with fail
  go_loopw [3, 4] (fun v i wr => ∃ k : Nat, i = .int .i64 k ∧ k ≤ n ∧ wr.ownsRow w.heap.size 3 1 v k (xsF F k) ∧ Below w.heap.size w wr) (fun _ i _ => n - (intOf i).toNat)
  case atStart => exact ⟨0, rfl, Nat.zero_le _, own_empty w F, (Below.refl _ _).alloc (Nat.le_refl _) _⟩
  case round =>
    obtain ⟨k, rfl, hk, hown, hnx⟩ := hrel
    by_cases h1 : k < n
    · have hc2 : wr.cell? ⟨b, off + k, none⟩ = some (.int .i64 (F k)) := (hnx.cell (p := ⟨b, off + k, none⟩) hlt).trans (HC.out k h1)
      have hs := hnx.size
      go_wp2_with (at_builtin; refine wpList_append_own _ rfl _ _ 24 rfl w.heap.size 3 i0 (.int .i64 0) 1 8 Tryd.underlying24 HI.out HZ0.out HZ1.out HZ2.out rfl (by decide) _ _ _ rfl (hown.alloc _) ⟨wr.heap.size, 0, none⟩ 1 1 [.int .i64 (F k)] rfl rfl ?c1 ?c2 ?c3 ?c4 ?c5 ?_)
      case c1 => exact cell_one_new _ _ _
      case c2 => intro u hu; simp at hu; subst hu; rfl
      case c3 => unfold maxLen; omega
      case c4 => omega
      case c5 => simp; omega
      intro v' w1 hown' hgrow _
      have hbel : Below w.heap.size w w1 := (hnx.alloc hs _).grown hgrow (by simp; omega) (own_ge hown)
      rw [xsF_succ] at hown'
      clear hgrow hown hc2
      go_wp2
      go_roundw
      case rel => exact ⟨k + 1, by go_num, by omega, hown', hbel⟩
      case measure => simp [intOf]; omega
    · have hd : decide (k < n) = false := by simpa using h1
      obtain rfl : k = n := by omega
      have HO := Lib.hid hown
      clear hown
      go_wp2
      go_ret
      exact ⟨_, rfl, HO.out, hnx⟩
theorem copy_none (a : Option Addr) (cap : Nat) (F : Nat → Int) (w : World) : Calls Tryd.prog 37 #[.slice a 0 cap] w fun e w' => ∃ v, e = .returned v ∧ w'.ownsRow w.heap.size 3 1 v 0 (xsF F 0) ∧ Below w.heap.size w w' := by
  go_enter Tryd.func37, Tryd.ntmps37
  go_wp2
  refine wp_loop_rounds 1 ?_
  rw [rounds_succ]
  go_wp2
  go_ret
  exact ⟨_, rfl, own_empty w F, (Below.refl _ _).alloc (Nat.le_refl _) _⟩
theorem copy_c (a : Option Addr) (n cap : Nat) (F : Nat → Int) (w : World) (hn : n ≤ 1048576) (hs : Src w a n F) : Calls Tryd.prog 37 #[.slice a n cap] w fun e w' => ∃ v, e = .returned v ∧ w'.ownsRow w.heap.size 3 1 v n (xsF F n) ∧ Below w.heap.size w w' := by
  rcases hs with rfl | ⟨b, off, rfl, hlt, hc⟩
  · exact copy_none a cap F w
  · exact copy_some b off n cap F w hn hlt hc
set_option maxRecDepth 100000 in
set_option maxHeartbeats 1600000 in
theorem cut_some (b off n cap : Nat) (F : Nat → Int) (w : World) (hn : n ≤ 1048576) (hcap : n ≤ cap) (hlt : b < w.heap.size) (hc : ∀ j, j < n → w.cell? ⟨b, off + j, none⟩ = some (.int .i64 (F j))) :
    Calls Tryd.prog 54 #[.slice (some ⟨b, off, none⟩) n cap] w (OwnsL w (cutL n F)) := by
  have HC := Lib.hid hc
  clear hc
  have HT : Hid (∀ k : Nat, k ≤ n → cutN F n = k → ∀ (v : Value) (w2 : World), w2.ownsRow w.heap.size 3 1 v k (xsF F k) → Below w.heap.size w w2 → OwnsL w (cutL n F) (.returned v) w2) := Lib.hid (fun k hk e v w2 ho hb => by
    subst e
    exact owns_to ho (cutL_len n F).symm (fun j hj => cutL_at hj) hb)
  go_enter Tryd.func54, Tryd.ntmps54
  go_wp2_with fail
  go_loop [3] (fun i => ∃ k : Nat, i = .int .i64 k ∧ k ≤ n ∧ Hid (cutN F n = cutN F k)) (fun i => (intOf i).toNat)
  case atStart => exact ⟨n, rfl, Nat.le_refl _, Lib.hid rfl⟩
  case round =>
    obtain ⟨k, rfl, hk, HK⟩ := hrel
    have hkc : k ≤ cap := by omega
    by_cases h1 : 0 < k
    · obtain ⟨m, rfl⟩ : ∃ m, k = m + 1 := ⟨k - 1, by omega⟩
      have c1 : w.cell? ⟨b, off + m, none⟩ = some (.int .i64 (F m)) := HC.out m (by omega)
      by_cases h2 : F m = 0
      · have HK2 : Hid (cutN F n = cutN F m) := Lib.hid (HK.out.trans (by rw [cutN, if_pos h2]))
        have e2 : (F m == 0) = true := by simp [h2]
        clear h2 HK
        go_wp2
        go_round
        case rel => exact ⟨m, by go_num, by omega, HK2⟩
        case measure => simp [intOf] <;> omega
      · have HK2 : Hid (cutN F n = m + 1) := Lib.hid (HK.out.trans (by rw [cutN, if_neg h2]))
        have e2 : (F m == 0) = false := by simp [h2]
        clear h2 HK
        go_wp2_with fail
        refine (copy_some b off (m + 1) cap F w (by omega) hlt (fun j hj => HC.out j (by omega))).mono ?_
        rintro e w2 ⟨v, rfl, ho, hb⟩
        have HO := Lib.hid ho
        clear ho
        go_wp2
        go_ret
        exact HT.out (m + 1) hk HK2.out _ w2 HO.out hb
    · obtain rfl : k = 0 := by omega
      have HK2 : Hid (cutN F n = 0) := Lib.hid (HK.out.trans rfl)
      clear HK h1
      go_wp2_with fail
      refine (copy_none (some ⟨b, off, none⟩) cap F w).mono ?_
      rintro e w2 ⟨v, rfl, ho, hb⟩
      have HO := Lib.hid ho
      clear ho
      go_wp2
      go_ret
      exact HT.out 0 (Nat.zero_le _) HK2.out _ w2 HO.out hb
theorem cut_none (a : Option Addr) (cap : Nat) (F : Nat → Int) (w : World) : Calls Tryd.prog 54 #[.slice a 0 cap] w (OwnsL w (cutL 0 F)) := by
  rcases a with _ | x
  · go_enter Tryd.func54, Tryd.ntmps54
    go_wp2
    refine wp_loop_rounds 1 ?_
    rw [rounds_succ]
    go_wp2_with fail
    refine (copy_none _ _ F w).mono ?_
    rintro e w2 ⟨v, rfl, ho, hb⟩
    have HO := Lib.hid ho
    clear ho
    go_wp2
    go_ret
    exact owns_to HO.out (cutL_len 0 F).symm (fun j hj => by omega) hb
  · go_enter Tryd.func54, Tryd.ntmps54
    go_wp2
    refine wp_loop_rounds 1 ?_
    rw [rounds_succ]
    go_wp2_with fail
    refine (copy_none _ _ F w).mono ?_
    rintro e w2 ⟨v, rfl, ho, hb⟩
    have HO := Lib.hid ho
    clear ho
    go_wp2
    go_ret
    exact owns_to HO.out (cutL_len 0 F).symm (fun j hj => by omega) hb
theorem cut_c (a : Option Addr) (n cap : Nat) (F : Nat → Int) (w : World) (hn : n ≤ 1048576) (hcap : n ≤ cap) (hs : Src w a n F) : Calls Tryd.prog 54 #[.slice a n cap] w (OwnsL w (cutL n F)) := by
  rcases hs with rfl | ⟨b, off, rfl, hlt, hc⟩
  · exact cut_none a cap F w
  · exact cut_some b off n cap F w hn hcap hlt hc
/-- The last step of a function that cuts the list which it has made. -/
theorem cut_own {base n : Nat} {F : Nat → Int} {v : Value} {w : World} (hn : n ≤ 1048576) (h : w.ownsRow base 3 1 v n (xsF F n)) : Calls Tryd.prog 54 #[v] w (OwnsL w (cutL n F)) := by
  obtain ⟨a, cap, rfl, hcap, hs⟩ := src_of_owns2 h
  exact cut_c a n cap F w hn hcap hs
theorem OwnsL.up {u w w' : World} {l : List Int} {e : Ending} (h : OwnsL w l e w') (hb : Below u.heap.size u w) (hs : u.heap.size ≤ w.heap.size) : OwnsL u l e w' := by
  obtain ⟨v, rfl, ho, h2⟩ := h
  refine ⟨v, rfl, ?_, below_up hb h2 hs⟩
  obtain ⟨hl, h⟩ := ho
  refine ⟨hl, ?_⟩
  rcases h with h | ⟨g, cap, cur, h1, hg, hr⟩
  · exact .inl h
  · exact .inr ⟨g, cap, cur, h1, Nat.le_trans hs hg, hr⟩
end Go.Proofs.YtoohhcfanllhmaaDoor
namespace Go.Proofs.YtoohhcfanllhmaaDoor
open Go.RowKit
theorem mAdd_on {f : Int} (h0 : 0 ≤ f) (h8 : f ≤ 8) (x y : Int) : mAdd f x y = RS (x + y) (P f) := by unfold mAdd; rw [if_pos ⟨h0, h8⟩]
theorem mMul_on {f : Int} (h0 : 0 ≤ f) (h8 : f ≤ 8) (x y : Int) : mMul f x y = RS (x * y) (P f) := by unfold mMul; rw [if_pos ⟨h0, h8⟩]
theorem mSub_on {f : Int} (h0 : 0 ≤ f) (h8 : f ≤ 8) (x y : Int) : mSub f x y = RS (x - y) (P f) := by unfold mSub; rw [if_pos ⟨h0, h8⟩]
def NilP (w : World) (e : Ending) (w' : World) : Prop := e = .returned (.slice none 0 0) ∧ Below w.heap.size w w'
theorem NilP.list {w w' : World} {l : List Int} {e : Ending} (hl : l = []) (h : NilP w e w') : ListL w l e w' := by
  subst hl
  obtain ⟨rfl, hb⟩ := h
  exact ⟨none, 0, rfl, .inl rfl, hb⟩
theorem NilP.own {w w' : World} {l : List Int} {e : Ending} (hl : l = []) (h : NilP w e w') : OwnL w l e w' := by
  subst hl
  obtain ⟨rfl, hb⟩ := h
  exact ⟨none, 0, rfl, OwnA.nil rfl, hb⟩
/-- A list of no cells, cut. -/
theorem cut_new {u : World} (w : World) (hb : Below u.heap.size u w) : Calls Tryd.prog 54 #[.slice (some ⟨w.heap.size, 0, none⟩) 0 0] (w.alloc (.cells #[] 3)) (OwnsL u []) :=
  (cut_own (base := w.heap.size) (n := 0) (F := fun _ => 0) (by omega) (own_empty w (fun _ => 0))).mono fun _ _ h => h.up (hb.alloc hb.size _) (Nat.le_trans hb.size (by simp))
theorem at_some (b off n cap : Nat) (F : Nat → Int) (i : Nat) (w : World) (hi : i < n) (_hn : n ≤ 1048576) (hc : w.cell? ⟨b, off + i, none⟩ = some (.int .i64 (F i))) :
    Calls Tryd.prog 73 #[.slice (some ⟨b, off, none⟩) n cap, .int .i64 i] w fun e w' => e = .returned (.int .i64 (F i)) ∧ w = w' := by
  have hd : decide ((i : Int) < n) = true := by simp; omega
  go_enter Tryd.func73, Tryd.ntmps73
  go_wp2
  go_ret
  exact ⟨rfl, rfl⟩
theorem at_none (a : Option Addr) (n cap : Nat) (i : Nat) (w : World) (hi : n ≤ i) : Calls Tryd.prog 73 #[.slice a n cap, .int .i64 i] w fun e w' => e = .returned (.int .i64 0) ∧ w = w' := by
  have hd : decide ((i : Int) < n) = false := by simp; omega
  go_enter Tryd.func73, Tryd.ntmps73
  go_wp2
  go_ret
  exact ⟨rfl, rfl⟩
theorem at_c (a : Option Addr) (l : List Int) (cap i : Nat) (w : World) (hn : l.length ≤ 1048576) (hs : Src w a l.length (lf l)) : Calls Tryd.prog 73 #[.slice a l.length cap, .int .i64 i] w fun e w' => e = .returned (.int .i64 (lf l i)) ∧ w = w' := by
  by_cases hi : i < l.length
  · rcases hs with hz | ⟨b, off, rfl, hlt, hc⟩
    · omega
    · exact at_some b off l.length cap (lf l) i w hi hn (hc i hi)
  · rw [lf_out l (by omega)]
    exact at_none a l.length cap i w (by omega)
set_option maxRecDepth 100000 in
set_option maxHeartbeats 1600000 in
theorem sAddPoly_on (f : Int) (a a2 : Option Addr) (l m : List Int) (cap cap2 : Nat) (w : World) (hn : l.length ≤ 1048576) (hn2 : m.length ≤ 1048576) (hs : Src w a l.length (lf l)) (hs2 : Src w a2 m.length (lf m)) (hl : PolOk f l) (hm : PolOk f m) :
    Calls Tryd.prog 53 #[.int .i64 f, .slice a l.length cap, .slice a2 m.length cap2] w (OwnsL w (addL f l m)) := by
  have H1 := fun w hs => sPolyOk f a l cap w hn hs
  have H2 := fun w hs => sPolyOk f a2 m cap2 w hn2 hs
  rw [pok_iff.2 hl] at H1
  rw [pok_iff.2 hm] at H2
  obtain ⟨⟨h0, h8⟩, l4, _⟩ := hl
  obtain ⟨_, m4, _⟩ := hm
  have HS := Lib.hid hs
  have HS2 := Lib.hid hs2
  have HA1 := fun i w hs => at_c a l cap i w hn hs
  have HA2 := fun i w hs => at_c a2 m cap2 i w hn2 hs
  have HX : Hid (addL f l m = cutL (max l.length m.length) (fun j => RS (lf l j + lf m j) (P f))) := Lib.hid rfl
  rw [HX.out]
  clear hs hs2 HX
  generalize lf l = A at *
  generalize lf m = B at *
  generalize l.length = n at *
  generalize m.length = q at *
  obtain ⟨N, hN⟩ : ∃ N, max n q = N := ⟨_, rfl⟩
  rw [hN]
  obtain ⟨i0, hi, hz0, hz1, hz2⟩ := info_parts info3
  have HI := Lib.hid hi
  have HZ0 := Lib.hid hz0
  have HZ1 := Lib.hid hz1
  have HZ2 := Lib.hid hz2
  clear hi hz0 hz1 hz2
  go_enter Tryd.func53, Tryd.ntmps53
  go_wp2_with fail
  refine (H1 _ (HS.out.keep ((Below.refl _ _).alloc (Nat.le_refl _) _))).mono ?_
  rintro e w' ⟨rfl, rfl⟩
  go_wp2_with fail
  refine (H2 _ (HS2.out.keep ((Below.refl _ _).alloc (Nat.le_refl _) _))).mono ?_
  rintro e w' ⟨rfl, rfl⟩
  go_wp2_with fail
  go_loopw [7, 8] (fun v i wr => ∃ k : Nat, i = .int .i64 k ∧ k ≤ N ∧ wr.ownsRow w.heap.size 3 1 v k (xsF (fun j => RS (A j + B j) (P f)) k) ∧ Below w.heap.size w wr) (fun _ i _ => N - (intOf i).toNat)
  case atStart => exact ⟨0, rfl, Nat.zero_le _, own_empty w _, (Below.refl _ _).alloc (Nat.le_refl _) _⟩
  case round =>
    obtain ⟨k, rfl, hk, hown, hnx⟩ := hrel
    have HM := Lib.hid (mAdd_on h0 h8 (A k) (B k))
    have R1 := Lib.hid (HA1 k wr (HS.out.keep hnx))
    have R2 := Lib.hid (HA2 k wr (HS2.out.keep hnx))
    by_cases h1 : k < n
    · have hd1 : decide ((k : Int) < n) = true := by simp; omega
      go_wp2_with fail
      refine R1.out.mono ?_
      rintro e w' ⟨rfl, rfl⟩
      go_wp2_with fail
      refine R2.out.mono ?_
      rintro e w' ⟨rfl, rfl⟩
      go_wp2_with fail
      refine (sAdd f (A k) (B k) wr).mono ?_
      rintro e w' ⟨rfl, rfl⟩
      rw [HM.out]
      have hs := hnx.size
      go_wp2_with (at_builtin; refine wpList_append_own _ rfl _ _ 24 rfl w.heap.size 3 i0 (.int .i64 0) 1 8 Tryd.underlying24 HI.out HZ0.out HZ1.out HZ2.out rfl (by decide) _ _ _ rfl (hown.alloc _) ⟨wr.heap.size, 0, none⟩ 1 1 [.int .i64 (RS (A k + B k) (P f))] rfl rfl ?c1 ?c2 ?c3 ?c4 ?c5 ?_)
      case c1 => exact cell_one_new _ _ _
      case c2 => intro u hu; simp at hu; subst hu; rfl
      case c3 => unfold maxLen; omega
      case c4 => omega
      case c5 => simp; omega
      intro v' w1 hown' hgrow _
      have hbel : Below w.heap.size w w1 := (hnx.alloc hs _).grown hgrow (by simp; omega) (own_ge hown)
      rw [xsF_succ (fun j => RS (A j + B j) (P f))] at hown'
      clear hgrow hown
      go_wp2
      go_roundw
      case rel => exact ⟨k + 1, by go_num, by omega, hown', hbel⟩
      case measure => simp [intOf]; omega
    · have hd1 : decide ((k : Int) < n) = false := by simp; omega
      by_cases h2 : k < q
      · have hd2 : decide ((k : Int) < q) = true := by simp; omega
        go_wp2_with fail
        refine R1.out.mono ?_
        rintro e w' ⟨rfl, rfl⟩
        go_wp2_with fail
        refine R2.out.mono ?_
        rintro e w' ⟨rfl, rfl⟩
        go_wp2_with fail
        refine (sAdd f (A k) (B k) wr).mono ?_
        rintro e w' ⟨rfl, rfl⟩
        rw [HM.out]
        have hs := hnx.size
        go_wp2_with (at_builtin; refine wpList_append_own _ rfl _ _ 24 rfl w.heap.size 3 i0 (.int .i64 0) 1 8 Tryd.underlying24 HI.out HZ0.out HZ1.out HZ2.out rfl (by decide) _ _ _ rfl (hown.alloc _) ⟨wr.heap.size, 0, none⟩ 1 1 [.int .i64 (RS (A k + B k) (P f))] rfl rfl ?d1 ?d2 ?d3 ?d4 ?d5 ?_)
        case d1 => exact cell_one_new _ _ _
        case d2 => intro u hu; simp at hu; subst hu; rfl
        case d3 => unfold maxLen; omega
        case d4 => omega
        case d5 => simp; omega
        intro v' w1 hown' hgrow _
        have hbel : Below w.heap.size w w1 := (hnx.alloc hs _).grown hgrow (by simp; omega) (own_ge hown)
        rw [xsF_succ (fun j => RS (A j + B j) (P f))] at hown'
        clear hgrow hown
        go_wp2
        go_roundw
        case rel => exact ⟨k + 1, by go_num, by omega, hown', hbel⟩
        case measure => simp [intOf]; omega
      · have hd2 : decide ((k : Int) < q) = false := by simp; omega
        obtain rfl : k = N := by omega
        have HO := Lib.hid (cut_own (by omega) hown)
        clear hown
        go_wp2_with fail
        refine HO.out.mono ?_
        rintro e w2 ho
        obtain ⟨v2, rfl, ho2, hb2⟩ := ho.up hnx hnx.size
        have HO2 := Lib.hid ho2
        clear ho ho2 HO
        go_wp2
        go_ret
        exact ⟨_, rfl, HO2.out, hb2⟩
set_option maxRecDepth 100000 in
set_option maxHeartbeats 1600000 in
theorem sScale_on (f c : Int) (a : Option Addr) (l : List Int) (cap : Nat) (w : World) (hn : l.length ≤ 1048576) (hs : Src w a l.length (lf l)) (hl : PolOk f l) :
    Calls Tryd.prog 39 #[.int .i64 f, .slice a l.length cap, .int .i64 c] w (OwnsL w (scaleL f l c)) := by
  have H1 := fun w hs => sPolyOk f a l cap w hn hs
  rw [pok_iff.2 hl] at H1
  obtain ⟨⟨h0, h8⟩, l4, _⟩ := hl
  have HS := Lib.hid hs
  have HX : Hid (scaleL f l c = cutL l.length (fun j => RS (lf l j * c) (P f))) := Lib.hid rfl
  rw [HX.out]
  clear HX
  rcases hs with hz | ⟨b, off, rfl, hlt, hc⟩
  · have HO := Lib.hid (cut_new w (Below.refl _ _))
    rw [hz] at H1 HS ⊢
    rw [show cutL 0 (fun j => RS (lf l j * c) (P f)) = [] from rfl]
    go_enter Tryd.func39, Tryd.ntmps39
    go_wp2_with fail
    refine (H1 _ (HS.out.keep ((Below.refl _ _).alloc (Nat.le_refl _) _))).mono ?_
    rintro e w' ⟨rfl, rfl⟩
    go_wp2_with fail
    refine wp_loop_rounds 1 ?_
    rw [rounds_succ]
    go_wp2_with fail
    refine HO.out.mono ?_
    rintro e w2 ⟨v2, rfl, ho2, hb2⟩
    have HO2 := Lib.hid ho2
    clear ho2 HO
    go_wp2
    go_ret
    exact ⟨_, rfl, HO2.out, hb2⟩
  · have HC := Lib.hid hc
    clear hc
    generalize lf l = F at *
    generalize l.length = n at *
    obtain ⟨i0, hi, hz0, hz1, hz2⟩ := info_parts info3
    have HI := Lib.hid hi
    have HZ0 := Lib.hid hz0
    have HZ1 := Lib.hid hz1
    have HZ2 := Lib.hid hz2
    clear hi hz0 hz1 hz2
    go_enter Tryd.func39, Tryd.ntmps39
    go_wp2_with fail
    refine (H1 _ (HS.out.keep ((Below.refl _ _).alloc (Nat.le_refl _) _))).mono ?_
    rintro e w' ⟨rfl, rfl⟩
    go_wp2_with fail
    go_loopw [7, 8] (fun v i wr => ∃ k : Nat, i = .int .i64 k ∧ k ≤ n ∧ wr.ownsRow w.heap.size 3 1 v k (xsF (fun j => RS (F j * c) (P f)) k) ∧ Below w.heap.size w wr) (fun _ i _ => n - (intOf i).toNat)
    case atStart => exact ⟨0, rfl, Nat.zero_le _, own_empty w _, (Below.refl _ _).alloc (Nat.le_refl _) _⟩
    case round =>
      obtain ⟨k, rfl, hk, hown, hnx⟩ := hrel
      by_cases h1 : k < n
      · have hc2 : wr.cell? ⟨b, off + k, none⟩ = some (.int .i64 (F k)) := (hnx.cell (p := ⟨b, off + k, none⟩) hlt).trans (HC.out k h1)
        have HM := Lib.hid (mMul_on h0 h8 (F k) c)
        go_wp2_with fail
        refine (sMul f (F k) c wr).mono ?_
        rintro e w' ⟨rfl, rfl⟩
        rw [HM.out]
        have hs := hnx.size
        go_wp2_with (at_builtin; refine wpList_append_own _ rfl _ _ 24 rfl w.heap.size 3 i0 (.int .i64 0) 1 8 Tryd.underlying24 HI.out HZ0.out HZ1.out HZ2.out rfl (by decide) _ _ _ rfl (hown.alloc _) ⟨wr.heap.size, 0, none⟩ 1 1 [.int .i64 (RS (F k * c) (P f))] rfl rfl ?c1 ?c2 ?c3 ?c4 ?c5 ?_)
        case c1 => exact cell_one_new _ _ _
        case c2 => intro u hu; simp at hu; subst hu; rfl
        case c3 => unfold maxLen; omega
        case c4 => omega
        case c5 => simp; omega
        intro v' w1 hown' hgrow _
        have hbel : Below w.heap.size w w1 := (hnx.alloc hs _).grown hgrow (by simp; omega) (own_ge hown)
        rw [xsF_succ (fun j => RS (F j * c) (P f))] at hown'
        clear hgrow hown
        go_wp2
        go_roundw
        case rel => exact ⟨k + 1, by go_num, by omega, hown', hbel⟩
        case measure => simp [intOf]; omega
      · have hd : decide (k < n) = false := by simpa using h1
        obtain rfl : k = n := by omega
        have HO := Lib.hid (cut_own (by omega) hown)
        clear hown
        go_wp2_with fail
        refine HO.out.mono ?_
        rintro e w2 ho
        obtain ⟨v2, rfl, ho2, hb2⟩ := ho.up hnx hnx.size
        have HO2 := Lib.hid ho2
        clear ho ho2 HO
        go_wp2
        go_ret
        exact ⟨_, rfl, HO2.out, hb2⟩
end Go.Proofs.YtoohhcfanllhmaaDoor
namespace Go.Proofs.YtoohhcfanllhmaaDoor
open Go.RowKit
theorem OwnG.finish {w w' : World} {l : List Int} {g : Nat} (hg : w.heap.size ≤ g) (ho : Own w' g l.length (lf l)) (hb : Below w.heap.size w w') : OwnL w l (.returned (.slice (some ⟨g, 0, none⟩) l.length l.length)) w' := OwnG.own ⟨g, rfl, hg, ho, hb⟩
theorem iAddPoly_off (f : Int) (a : Option Addr) (l : List Int) (cap : Nat) (a2 : Option Addr) (m : List Int) (cap2 : Nat) (w : World) (hn : l.length ≤ 1048576) (hn2 : m.length ≤ 1048576) (hs : Src w a l.length (lf l)) (hs2 : Src w a2 m.length (lf m)) (ht : Tab w) (hk : ¬ (PolOk f l ∧ PolOk f m)) :
    Calls Tryd.prog 14 #[.int .i64 f, .slice a l.length cap, .slice a2 m.length cap2] w (NilP w) := by
  have HS := Lib.hid hs
  have HS2 := Lib.hid hs2
  have BA : Hid (∀ o, Below w.heap.size w (w.alloc o)) := Lib.hid fun o => (Below.refl _ _).alloc (Nat.le_refl _) o
  clear hs hs2
  have HB : Hid ((mPolyOk f l && mPolyOk f m) = false) := Lib.hid (by
    by_cases h1 : PolOk f l
    · rw [pok_not.2 fun h => hk ⟨h1, h⟩, Bool.and_false]
    · rw [pok_not.2 h1, Bool.false_and])
  clear hk
  go_enter Tryd.func14, Tryd.ntmps14
  go_wp2_with fail
  refine (arePolys_c f w.heap.size a a2 l m cap cap2 _ hn hn2 (HS.out.keep (BA.out _)) (HS2.out.keep (BA.out _)) (ht.below (BA.out _)) (cell_two _ _ _ _).1 (cell_two _ _ _ _).2).mono ?_
  rintro e w' ⟨rfl, rfl⟩
  rw [HB.out]
  go_wp2
  go_ret
  exact ⟨rfl, BA.out _⟩
set_option maxRecDepth 100000 in
set_option maxHeartbeats 1600000 in
theorem iAddPoly_on (f : Int) (a : Option Addr) (l : List Int) (cap : Nat) (a2 : Option Addr) (m : List Int) (cap2 : Nat) (w : World) (hn : l.length ≤ 1048576) (hn2 : m.length ≤ 1048576) (hs : Src w a l.length (lf l)) (hs2 : Src w a2 m.length (lf m)) (ht : Tab w) (hl : PolOk f l) (hm : PolOk f m) :
    Calls Tryd.prog 14 #[.int .i64 f, .slice a l.length cap, .slice a2 m.length cap2] w (OwnL w (addL f l m)) := by
  have HS := Lib.hid hs
  have HS2 := Lib.hid hs2
  have BA : Hid (∀ o, Below w.heap.size w (w.alloc o)) := Lib.hid fun o => (Below.refl _ _).alloc (Nat.le_refl _) o
  clear hs hs2
  have HB : Hid ((mPolyOk f l && mPolyOk f m) = true) := Lib.hid (by rw [pok_iff.2 hl, pok_iff.2 hm]; rfl)
  have h0 := hl.1.1
  have h8 := hl.1.2
  have HL := Lib.hid hl
  have HM := Lib.hid hm
  clear hl hm
  go_enter Tryd.func14, Tryd.ntmps14
  go_wp2_with fail
  refine (arePolys_c f w.heap.size a a2 l m cap cap2 _ hn hn2 (HS.out.keep (BA.out _)) (HS2.out.keep (BA.out _)) (ht.below (BA.out _)) (cell_two _ _ _ _).1 (cell_two _ _ _ _).2).mono ?_
  rintro e w' ⟨rfl, rfl⟩
  rw [HB.out]
  go_wp2_with fail
  refine (sum_c f a a2 l m cap cap2 _ (ht.below (BA.out _)) h0 h8 hn hn2 HL.out.2.2 HM.out.2.2 (HS.out.keep (BA.out _)) (HS2.out.keep (BA.out _))).mono ?_
  rintro e w2 ho
  obtain ⟨g, rfl, hg, hO, hB⟩ := ho.up (BA.out _)
  have HO := Lib.hid hO
  clear hO ho
  go_wp2
  go_ret
  exact OwnG.finish hg HO.out hB
theorem iAddPoly (f : Int) (a : Option Addr) (l : List Int) (cap : Nat) (a2 : Option Addr) (m : List Int) (cap2 : Nat) (w : World) (hn : l.length ≤ 1048576) (hn2 : m.length ≤ 1048576) (hs : Src w a l.length (lf l)) (hs2 : Src w a2 m.length (lf m)) (ht : Tab w) :
    Calls Tryd.prog 14 #[.int .i64 f, .slice a l.length cap, .slice a2 m.length cap2] w (OwnL w (mAddPoly f l m)) := by
  by_cases hk : PolOk f l ∧ PolOk f m
  · rw [show mAddPoly f l m = addL f l m by unfold mAddPoly; rw [if_pos hk]]
    exact iAddPoly_on f a l cap a2 m cap2 w hn hn2 hs hs2 ht hk.1 hk.2
  · exact (iAddPoly_off f a l cap a2 m cap2 w hn hn2 hs hs2 ht hk).mono fun _ _ h => h.own (by unfold mAddPoly; rw [if_neg hk])
end Go.Proofs.YtoohhcfanllhmaaDoor
namespace Go.Proofs.YtoohhcfanllhmaaDoor
open Go.RowKit
theorem inverse_c (n a : Int) (w : World) (ht : Tab w) (h0 : 0 ≤ n) (h8 : n ≤ 8) (ha : 0 ≤ a) (ha2 : a < P n) : Calls Tryd.prog 60 #[.int .i64 n, .int .i64 a] w fun e w' => e = .returned (.int .i64 (PW (P n) a (P n - 2))) ∧ w = w' := by
  have hp := P_bd h0 h8
  go_enter Tryd.func60, Tryd.ntmps60
  go_wp2_with fail
  refine (prime_c n w ht h0 h8).mono ?_
  rintro e w' ⟨rfl, rfl⟩
  go_wp2_with fail
  refine (power_c n a (P n - 2) w ht h0 h8 ha ha2 (by omega) (by omega)).mono ?_
  rintro e w' ⟨rfl, rfl⟩
  go_wp2
  go_ret
  exact ⟨rfl, rfl⟩
theorem inverse_inv {f x : Int} (h0 : 0 ≤ f) (h8 : f ≤ 8) (x0 : 0 < x) (x1 : x < P f) : PW (P f) x (P f - 2) = invF f x := by
  have hp := P_bd h0 h8
  have b := PW_bd (m := P f) (x := x) (e := P f - 2) (by omega)
  refine inv_unique h0 h8 b.1 b.2 ?_ ?_
  · rw [RS_self (by omega) x1]; omega
  · rw [RS_self (by omega) x1]; exact back_first h0 h8 x0 x1
theorem quo_len {f : Int} (h0 : 0 ≤ f) (h8 : f ≤ 8) {a b q r : List Int} (ha : Pol f a) (hb : Pol f b) (hle : b.length ≤ a.length) (h : DivP f a b q r) : q.length + b.length = a.length + 1 := by
  have h1 := div_len h0 h8 hb h
  have hr := h.2.2.1
  by_cases hlt : a.length + 1 ≤ q.length + b.length
  · omega
  · exfalso
    have ht := top_nz h0 h8 ha (by omega)
    rw [h.2.2.2 (a.length - 1), lf_out r (by omega), cv_out (fun j h => lf_out q h) (fun j h => lf_out b h) (by omega)] at ht
    simp at ht
def upd (Q : Nat → Int) (s : Nat) (m : Int) : Nat → Int := fun j => if j = s then m else Q j
theorem DivAt.stepK {f : Int} (h0 : 0 ≤ f) (h8 : f ≤ 8) {A : Nat → Int} {b : List Int} {s k : Nat} {Q R : Nat → Int} {inv : Int} (hk : b.length = k + 1) (hinv : (lf b k * inv) % P f = 1 % P f) (h : DivAt f A b (s + k + 1) Q R) :
    DivAt f A b (s + k) (upd Q s (RS (R (s + k) * inv) (P f))) (dst f b R (RS (R (s + k) * inv) (P f)) s (k + 1)) := by
  have e1 : s + k + 1 = s + b.length := by omega
  rw [e1] at h
  have := h.step h0 h8 (by omega) (inv := inv) (by rw [hk]; exact hinv)
  rw [hk, show s + (k + 1) - 1 = s + k by omega, show k + 1 - 1 = k by omega] at this
  exact this
theorem own_upd {w : World} {g n s : Nat} {Q : Nat → Int} {m : Int} (h : Own w g n Q) : Own (w.setCell ⟨g, s, none⟩ (.int .i64 m)) g n (upd Q s m) := by
  refine (World.rowIs.set h s (.int .i64 m)).congr fun j _ => ?_
  unfold upd
  split <;> rfl
theorem own_dst {f : Int} {w : World} {g n s i : Nat} {b : List Int} {R : Nat → Int} {m : Int} (h : Own w g n (dst f b R m s i)) : Own (w.setCell ⟨g, s + i, none⟩ (.int .i64 (RS (R (s + i) - RS (m * lf b i) (P f)) (P f)))) g n (dst f b R m s (i + 1)) := by
  refine (World.rowIs.set h (s + i) (.int .i64 _)).congr fun j _ => ?_
  rw [dst_succ]
  split <;> rfl
/-- What a division answers. -/
def DivR (f : Int) (l m : List Int) (w : World) (e : Ending) (w' : World) : Prop := ∃ gq gr q r, e = .returned (.tuple #[.slice (some ⟨gq, 0, none⟩) (List.length q) (List.length q), .slice (some ⟨gr, 0, none⟩) (List.length r) (List.length r)]) ∧ DivP f l m q r ∧ w.heap.size ≤ gq ∧ gq < gr ∧ Own w' gq (List.length q) (lf q) ∧ Own w' gr (List.length r) (lf r) ∧ Below w.heap.size w w'
theorem div_finish {f : Int} (h0 : 0 ≤ f) (h8 : f ≤ 8) {l m : List Int} (hl : Pol f l) (hm : Pol f m) {w w' : World} {gq gr n' M : Nat} {Q R : Nat → Int} (hd : DivAt f (lf l) m n' Q R) (hn : n' < m.length) (hn2 : n' ≤ l.length) (hM : (m.length ≤ l.length ∧ M + m.length = l.length + 1) ∨ (l.length < m.length ∧ M = 0)) (hQ : ∀ j, M ≤ j → Q j = 0)
    (hB : w.heap.size ≤ gq) (hlt : gq < gr) (hoq : Own w' gq M Q) (hor : Own w' gr (cutL l.length R).length (lf (cutL l.length R))) (hb : Below w.heap.size w w') :
    DivR f l m w (.returned (.tuple #[.slice (some ⟨gq, 0, none⟩) M M, .slice (some ⟨gr, 0, none⟩) (cutL l.length R).length (cutL l.length R).length])) w' := by
  have hp := P_pos h0 h8
  have hdiv := hd.divP (N := l.length) (M := M) hp hn hn2 hQ
  have hq : (cutL M Q).length = M := by
    rcases hM with ⟨h1, h2⟩ | ⟨h1, h2⟩
    · have := quo_len h0 h8 hl hm h1 hdiv
      omega
    · rw [h2]; rfl
  refine ⟨gq, gr, cutL M Q, cutL l.length R, by rw [hq], hdiv, hB, hlt, own_congr hoq hq.symm (fun j hj => ?_), hor, hb⟩
  rw [lf_cutL, if_pos hj]
end Go.Proofs.YtoohhcfanllhmaaDoor
namespace Go.Proofs.YtoohhcfanllhmaaDoor
open Go.RowKit
set_option maxRecDepth 100000 in
set_option maxHeartbeats 6400000 in
theorem divide_lt (f : Int) (a : Option Addr) (b2 off2 k : Nat) (l m : List Int) (cap cap2 : Nat) (w : World) (ht : Tab w) (h0 : 0 ≤ f) (h8 : f ≤ 8) (hn : l.length ≤ 4096) (hk : m.length = k + 1) (hk2 : k + 1 ≤ 4096) (hlt : l.length < k) (hl : Pol f l) (hm : Pol f m) (hs : Src w a l.length (lf l)) (hlt2 : b2 < w.heap.size) (hc2 : ∀ j, j < k + 1 → w.cell? ⟨b2, off2 + j, none⟩ = some (.int .i64 (lf m j))) :
    Calls Tryd.prog 32 #[.int .i64 f, .slice a l.length cap, .slice (some ⟨b2, off2, none⟩) (k + 1) cap2] w (DivR f l m w) := by
  have hp := P_bd h0 h8
  have HP := Lib.hid fun (w1 : World) (hb : Below w.heap.size w w1) => poly_c a l.length cap (lf l) w1 (by omega) (hs.keep hb)
  have hE : Hid (cutL l.length (lf l) = l) := Lib.hid (cut_self hl)
  have bm := hm.1 k
  have HC2 := Lib.hid hc2
  have HB := Lib.hid hm.1
  have bmz : lf m k ≠ 0 := by
    rcases hm.2 with h | h
    · omega
    · rw [hk] at h; exact h
  have HINV : Hid ((lf m k * PW (P f) (lf m k) (P f - 2)) % P f = 1 % P f) := Lib.hid (by
    rw [inverse_inv h0 h8 (by omega) bm.2]
    have := inv_top h0 h8 hm (by omega)
    rw [hk, show k + 1 - 1 = k by omega] at this
    exact this)
  have BI := PW_bd (m := P f) (x := lf m k) (e := P f - 2) (by omega)
  rw [hE.out] at HP
  clear hs hc2
  have hmk := made0
  have hlt' : (l.length : Int) < k := by omega
  go_enter Tryd.func32, Tryd.ntmps32
  go_wp2_with fail
  go_step3
  go_wp2_with fail
  have hb1 : Below w.heap.size w (w.alloc (.cells (madeCells #[.int .i64 0] 0) 3)) := (Below.refl _ _).alloc (Nat.le_refl _) _
  have HQ0 : Hid (Own (w.alloc (.cells (madeCells #[.int .i64 0] 0) 3)) w.heap.size 0 (fun _ => 0)) := Lib.hid (own_congr (World.rowIs_made w (.int .i64 0) 0 3) rfl (fun j _ => rfl))
  refine (HP.out _ hb1).mono ?_
  rintro e w1 ⟨gr, rfl, hgr, hO, hB⟩
  rw [World.size_alloc] at hgr
  have hBw := below_up hb1 hB (by simp)
  have c2 : w1.cell? ⟨b2, off2 + k, none⟩ = some (.int .i64 (lf m k)) := (hBw.cell (p := ⟨b2, off2 + k, none⟩) hlt2).trans (HC2.out k (by omega))
  have HQ1 := Lib.hid (HQ0.out.keep hB)
  have HR1 := Lib.hid hO
  clear hO HQ0 hB hb1 HP
  go_wp2_with fail
  refine (inverse_c f (lf m k) w1 (ht.below hBw) h0 h8 bm.1 bm.2).mono ?_
  rintro e w' ⟨rfl, rfl⟩
  go_wp2_with fail
  go_step3
  go_wp2_with fail
  refine wp_loop_rounds 1 ?_
  rw [rounds_succ]
  go_wp2_with fail
  refine (poly_c (some ⟨gr, 0, none⟩) l.length l.length (lf l) w1 (by omega) HR1.out.src).mono ?_
  rw [hE.out]
  rintro e w2 ⟨g2, rfl, hg2, hO2, hB2⟩
  have hlt1 := HR1.out.lt
  have HF : Hid (DivR f l m w (.returned (.tuple #[.slice (some ⟨w.heap.size, 0, none⟩) 0 0, .slice (some ⟨g2, 0, none⟩) l.length l.length])) w2) := Lib.hid (by
    have := div_finish h0 h8 hl hm (w := w) (w' := w2) (gq := w.heap.size) (gr := g2) (M := 0) (DivAt.start hl (P_pos h0 h8)) (by omega) (Nat.le_refl _) (.inr ⟨by omega, rfl⟩) (fun _ _ => rfl) (Nat.le_refl _) (by omega) (HQ1.out.keep hB2) (by rw [hE.out]; exact hO2) (below_up hBw hB2 hBw.size)
    rw [hE.out] at this
    exact this)
  clear hO2
  go_wp2
  (try rw [Exit.noGoto_ret])
  go_ret2
  exact HF.out
set_option maxRecDepth 100000 in
set_option maxHeartbeats 6400000 in
theorem divide_eq (f : Int) (a : Option Addr) (b2 off2 k : Nat) (l m : List Int) (cap cap2 : Nat) (w : World) (ht : Tab w) (h0 : 0 ≤ f) (h8 : f ≤ 8) (_hn : l.length ≤ 4096) (hk : m.length = k + 1) (hk2 : k + 1 ≤ 4096) (hlt : l.length ≤ k) (hlt3 : k ≤ l.length) (hl : Pol f l) (hm : Pol f m) (hs : Src w a l.length (lf l)) (hlt2 : b2 < w.heap.size) (hc2 : ∀ j, j < k + 1 → w.cell? ⟨b2, off2 + j, none⟩ = some (.int .i64 (lf m j))) :
    Calls Tryd.prog 32 #[.int .i64 f, .slice a l.length cap, .slice (some ⟨b2, off2, none⟩) (k + 1) cap2] w (DivR f l m w) := by
  have hp := P_bd h0 h8
  have HP := Lib.hid fun (w1 : World) (hb : Below w.heap.size w w1) => poly_c a l.length cap (lf l) w1 (by omega) (hs.keep hb)
  have hE : Hid (cutL l.length (lf l) = l) := Lib.hid (cut_self hl)
  have bm := hm.1 k
  have HC2 := Lib.hid hc2
  have HB := Lib.hid hm.1
  have bmz : lf m k ≠ 0 := by
    rcases hm.2 with h | h
    · omega
    · rw [hk] at h; exact h
  have HINV : Hid ((lf m k * PW (P f) (lf m k) (P f - 2)) % P f = 1 % P f) := Lib.hid (by
    rw [inverse_inv h0 h8 (by omega) bm.2]
    have := inv_top h0 h8 hm (by omega)
    rw [hk, show k + 1 - 1 = k by omega] at this
    exact this)
  have BI := PW_bd (m := P f) (x := lf m k) (e := P f - 2) (by omega)
  rw [hE.out] at HP
  clear hs hc2
  have hmk0 := made0
  have hmk : ∀ w, (Instr.makeSlice 24 (.int .i64 ((l.length : Int) - ((k : Int) + 1) + 1)) (.int .i64 ((l.length : Int) - ((k : Int) + 1) + 1))).run Tryd.prog w = .ok (.slice (some ⟨w.heap.size, 0, none⟩) 0 0) (w.alloc (.cells (madeCells #[.int .i64 0] 0) 3)) := fun w => by
    rw [show ((l.length : Int) - ((k : Int) + 1) + 1) = 0 by omega]; exact made0 w
  go_enter Tryd.func32, Tryd.ntmps32
  go_wp2_with fail
  go_step3
  go_wp2_with fail
  have hb1 : Below w.heap.size w (w.alloc (.cells (madeCells #[.int .i64 0] 0) 3)) := (Below.refl _ _).alloc (Nat.le_refl _) _
  have HQ0 : Hid (Own (w.alloc (.cells (madeCells #[.int .i64 0] 0) 3)) w.heap.size 0 (fun _ => 0)) := Lib.hid (own_congr (World.rowIs_made w (.int .i64 0) 0 3) rfl (fun j _ => rfl))
  refine (HP.out _ hb1).mono ?_
  rintro e w1 ⟨gr, rfl, hgr, hO, hB⟩
  rw [World.size_alloc] at hgr
  have hBw := below_up hb1 hB (by simp)
  have c2 : w1.cell? ⟨b2, off2 + k, none⟩ = some (.int .i64 (lf m k)) := (hBw.cell (p := ⟨b2, off2 + k, none⟩) hlt2).trans (HC2.out k (by omega))
  have HQ1 := Lib.hid (HQ0.out.keep hB)
  have HR1 := Lib.hid hO
  clear hO HQ0 hB hb1 HP
  go_wp2_with fail
  refine (inverse_c f (lf m k) w1 (ht.below hBw) h0 h8 bm.1 bm.2).mono ?_
  rintro e w' ⟨rfl, rfl⟩
  go_wp2_with fail
  go_step3
  go_wp2_with fail
  refine wp_loop_rounds 1 ?_
  rw [rounds_succ]
  go_wp2_with fail
  refine (poly_c (some ⟨gr, 0, none⟩) l.length l.length (lf l) w1 (by omega) HR1.out.src).mono ?_
  rw [hE.out]
  rintro e w2 ⟨g2, rfl, hg2, hO2, hB2⟩
  have hlt1 := HR1.out.lt
  have HF : Hid (DivR f l m w (.returned (.tuple #[.slice (some ⟨w.heap.size, 0, none⟩) 0 0, .slice (some ⟨g2, 0, none⟩) l.length l.length])) w2) := Lib.hid (by
    have := div_finish h0 h8 hl hm (w := w) (w' := w2) (gq := w.heap.size) (gr := g2) (M := 0) (DivAt.start hl (P_pos h0 h8)) (by omega) (Nat.le_refl _) (.inr ⟨by omega, rfl⟩) (fun _ _ => rfl) (Nat.le_refl _) (by omega) (HQ1.out.keep hB2) (by rw [hE.out]; exact hO2) (below_up hBw hB2 hBw.size)
    rw [hE.out] at this
    exact this)
  clear hO2
  go_wp2
  (try rw [Exit.noGoto_ret])
  go_ret2
  exact HF.out
set_option maxRecDepth 100000 in
set_option maxHeartbeats 6400000 in
theorem divide_ge (f : Int) (a : Option Addr) (b2 off2 k : Nat) (l m : List Int) (cap cap2 : Nat) (w : World) (ht : Tab w) (h0 : 0 ≤ f) (h8 : f ≤ 8) (hn : l.length ≤ 4096) (hk : m.length = k + 1) (hk2 : k + 1 ≤ 4096) (M : Nat) (hlt : M + k = l.length) (hM : 0 < M) (hl : Pol f l) (hm : Pol f m) (hs : Src w a l.length (lf l)) (hlt2 : b2 < w.heap.size) (hc2 : ∀ j, j < k + 1 → w.cell? ⟨b2, off2 + j, none⟩ = some (.int .i64 (lf m j))) :
    Calls Tryd.prog 32 #[.int .i64 f, .slice a l.length cap, .slice (some ⟨b2, off2, none⟩) (k + 1) cap2] w (DivR f l m w) := by
  have hp := P_bd h0 h8
  have HP := Lib.hid fun (w1 : World) (hb : Below w.heap.size w w1) => poly_c a l.length cap (lf l) w1 (by omega) (hs.keep hb)
  have hE : Hid (cutL l.length (lf l) = l) := Lib.hid (cut_self hl)
  have bm := hm.1 k
  have HC2 := Lib.hid hc2
  have HB := Lib.hid hm.1
  have bmz : lf m k ≠ 0 := by
    rcases hm.2 with h | h
    · omega
    · rw [hk] at h; exact h
  have HINV : Hid ((lf m k * PW (P f) (lf m k) (P f - 2)) % P f = 1 % P f) := Lib.hid (by
    rw [inverse_inv h0 h8 (by omega) bm.2]
    have := inv_top h0 h8 hm (by omega)
    rw [hk, show k + 1 - 1 = k by omega] at this
    exact this)
  have BI := PW_bd (m := P f) (x := lf m k) (e := P f - 2) (by omega)
  rw [hE.out] at HP
  clear hs hc2
  have hmk : ∀ w, (Instr.makeSlice 24 (.int .i64 ((l.length : Int) - ((k : Int) + 1) + 1)) (.int .i64 ((l.length : Int) - ((k : Int) + 1) + 1))).run Tryd.prog w = .ok (.slice (some ⟨w.heap.size, 0, none⟩) M M) (w.alloc (.cells (madeCells #[.int .i64 0] M) 3)) := fun w => by
    rw [show ((l.length : Int) - ((k : Int) + 1) + 1) = (M : Int) by omega]; exact made_n M (by omega) w
  go_enter Tryd.func32, Tryd.ntmps32
  go_wp2_with fail
  go_step3
  go_wp2_with fail
  have hb1 : Below w.heap.size w (w.alloc (.cells (madeCells #[.int .i64 0] M) 3)) := (Below.refl _ _).alloc (Nat.le_refl _) _
  have HQ0 : Hid (Own (w.alloc (.cells (madeCells #[.int .i64 0] M) 3)) w.heap.size M (fun _ => 0)) := Lib.hid (own_congr (World.rowIs_made w (.int .i64 0) M 3) rfl (fun j _ => rfl))
  refine (HP.out _ hb1).mono ?_
  rintro e w1 ⟨gr, rfl, hgr, hO, hB⟩
  rw [World.size_alloc] at hgr
  have hBw := below_up hb1 hB (by simp)
  have c2 : w1.cell? ⟨b2, off2 + k, none⟩ = some (.int .i64 (lf m k)) := (hBw.cell (p := ⟨b2, off2 + k, none⟩) hlt2).trans (HC2.out k (by omega))
  have HQ1 := Lib.hid (HQ0.out.keep hB)
  have HR1 := Lib.hid hO
  clear hO HQ0 hB hb1 HP
  go_wp2_with fail
  refine (inverse_c f (lf m k) w1 (ht.below hBw) h0 h8 bm.1 bm.2).mono ?_
  rintro e w' ⟨rfl, rfl⟩
  go_wp2_with fail
  go_step3
  go_wp2_with fail
  clear hmk
  have HFIN : Hid (∀ (wr w2 : World) (g2 n' : Nat) (Q R : Nat → Int), DivAt f (lf l) m n' Q R → n' < k + 1 → n' ≤ l.length → (∀ j, M ≤ j → Q j = 0) → w.heap.size < g2 → Own w2 w.heap.size M Q → Own w2 g2 (cutL l.length R).length (lf (cutL l.length R)) → Below w.heap.size w w2 →
      DivR f l m w (.returned (.tuple #[.slice (some ⟨w.heap.size, 0, none⟩) M M, .slice (some ⟨g2, 0, none⟩) (cutL l.length R).length (cutL l.length R).length])) w2) := Lib.hid fun wr w2 g2 n' Q R hd h1 h2 hQ hg ho1 ho2 hb =>
    div_finish h0 h8 hl hm hd (by omega) h2 (.inl ⟨by omega, by omega⟩) hQ (Nat.le_refl _) hg ho1 ho2 hb
  have HSTEP : Hid (∀ (s : Nat) (Q R : Nat → Int), DivAt f (lf l) m (s + k + 1) Q R → DivAt f (lf l) m (s + k) (upd Q s (RS (R (s + k) * PW (P f) (lf m k) (P f - 2)) (P f))) (dst f m R (RS (R (s + k) * PW (P f) (lf m k) (P f - 2)) (P f)) s (k + 1))) := Lib.hid fun s Q R h => h.stepK h0 h8 hk HINV.out
  have HST : Hid (DivAt f (lf l) m l.length (fun _ => 0) (lf l)) := Lib.hid (DivAt.start hl (P_pos h0 h8))
  generalize PW (P f) (lf m k) (P f - 2) = V at *
  clear HINV hE bmz
  have hgr1 : w.heap.size < gr := by omega
  go_loopw [12, 13, 14, 15] (fun sh _ _ _ wr => ∃ (sI : Int) (n' : Nat) (Q R : Nat → Int), sh = .int .i64 sI ∧ sI + k + 1 = n' ∧ n' ≤ l.length ∧ Hid (DivAt f (lf l) m n' Q R) ∧ Hid (∀ j, M ≤ j → Q j = 0) ∧ Own wr w.heap.size M Q ∧ Own wr gr l.length R ∧ Below w.heap.size w wr) (fun sh _ _ _ _ => (intOf sh + 1).toNat)
  case atStart => exact ⟨_, l.length, fun _ => 0, lf l, rfl, by omega, Nat.le_refl _, HST, Lib.hid (fun _ _ => rfl), HQ1.out, HR1.out, hBw⟩
  case round =>
    clear HQ1 HR1 hBw c2 HST
    obtain ⟨sI, n', Q, R, rfl, hsn, hnn, HD, HZ, hoq, hor, hb⟩ := hrel
    by_cases hs0 : 0 ≤ sI
    · obtain ⟨s, rfl⟩ := Int.eq_ofNat_of_zero_le hs0
      obtain rfl : n' = s + k + 1 := by omega
      have hsk : s + k < l.length := by omega
      have hsM : s < M := by omega
      have cR := World.rowIs.cell hor hsk
      have bR := HD.out.2.1 (s + k)
      have cQ := World.rowIs.cell hoq hsM
      have fQ := World.rowIs.frozen hoq s
      have HT := Lib.hid (ht.below hb)
      have bfac := RS_bd (x := R (s + k) * V) (m := P f) (by omega)
      have HN := Lib.hid (HSTEP.out s Q R HD.out)
      have HQ' := Lib.hid (own_upd (s := s) (m := RS (R (s + k) * V) (P f)) hoq)
      have HR' := Lib.hid (own_other (k := s) (v := .int .i64 (RS (R (s + k) * V) (P f))) hor (show gr ≠ w.heap.size by omega))
      have HB' := Lib.hid (hb.setCell (p := ⟨w.heap.size, s, none⟩) (Nat.le_refl _) (.int .i64 (RS (R (s + k) * V) (P f))))
      have HZ' : Hid (∀ j, M ≤ j → upd Q s (RS (R (s + k) * V) (P f)) j = 0) := Lib.hid (fun j hj => by unfold upd; rw [if_neg (by omega)]; exact HZ.out j hj)
      have HRb := Lib.hid HD.out.2.1
      clear HD HZ hoq hor
      go_wp2_with fail
      refine (mul_c f (R (s + k)) V wr HT.out h0 h8 bR.1 bR.2 BI.1 BI.2).mono ?_
      rintro e w' ⟨rfl, rfl⟩
      generalize hfac : RS (R (s + k) * V) (P f) = fac at *
      go_wp2_with fail
      obtain ⟨W1, hW1⟩ : ∃ W1, wr.setCell ⟨w.heap.size, s, none⟩ (.int .i64 fac) = W1 := ⟨_, rfl⟩
      rw [hW1] at HQ' HR' HB' ⊢
      have HR2 : Hid (Own W1 gr l.length (dst f m R fac s 0)) := Lib.hid (own_congr HR'.out rfl (fun j _ => (dst_zero f m R fac s j).symm))
      clear hW1 HR' cR cQ fQ hb HT
      go_loopw [14, 15, 57] (fun _ _ i W => ∃ j : Nat, i = .int .i64 j ∧ j ≤ k + 1 ∧ Own W gr l.length (dst f m R fac s j) ∧ Own W w.heap.size M (upd Q s fac) ∧ Below w.heap.size w W) (fun _ _ i _ => k + 1 - (intOf i).toNat)
      case atStart => exact ⟨0, rfl, Nat.zero_le _, HR2.out, HQ'.out, HB'.out⟩
      case round =>
        clear HR2 HQ' HB'
        obtain ⟨j, rfl, hj, hor, hoq, hb⟩ := hrel
        by_cases hjk : j < k + 1
        · have hdj : decide ((j : Int) < (k : Int) + 1) = true := decide_eq_true (by omega)
          have d2 : wr.cell? ⟨b2, off2 + j, none⟩ = some (.int .i64 (lf m j)) := (hb.cell (p := ⟨b2, off2 + j, none⟩) hlt2).trans (HC2.out j hjk)
          have hsj : s + j < l.length := by omega
          have hor1 : Own wr.drew gr l.length (dst f m R fac s j) := hor
          have hoq1 : Own wr.drew w.heap.size M (upd Q s fac) := hoq
          have hb1 : Below w.heap.size w wr.drew := ⟨hb.os, hb.tape, hb.output, hb.size, hb.block⟩
          have cR := World.rowIs.cell hor hsj
          rw [dst_at] at cR
          have fR := World.rowIs.frozen hor1 (s + j)
          have cR1 := World.rowIs.cell hor1 hsj
          rw [dst_at] at cR1
          have HTw : Hid (Tab wr.drew) := Lib.hid (Tab.keep (ht.below hb) (fun _ => rfl))
          have bR := HRb.out (s + j)
          have bM := HB.out j
          have bX := RS_bd (x := fac * lf m j) (m := P f) (by omega)
          have HS1 := Lib.hid (own_dst hor1)
          have HS2 := Lib.hid (own_other (k := s + j) (v := .int .i64 (RS (R (s + j) - RS (fac * lf m j) (P f)) (P f))) hoq1 (show w.heap.size ≠ gr by omega))
          have HS3 := Lib.hid (hb1.setCell (p := ⟨gr, s + j, none⟩) (show w.heap.size ≤ gr by omega) (.int .i64 (RS (R (s + j) - RS (fac * lf m j) (P f)) (P f))))
          have hw : IntKind.i64.wrap ((s : Int) + j) = (s : Int) + j := IntWalk.i64_in _ (by omega)
          have hi1 : (0 : Int) ≤ (s : Int) + j := by omega
          have hi2 : (s : Int) + j < (l.length : Int) := by omega
          have hi3 : ((s : Int) + j).toNat = s + j := by omega
          clear hor hoq hor1 hoq1
          go_wp2
          refine wp_region_still_tail 17 (by kernel_rfl) (by kernel_rfl) ?_
          simp only [List.take_succ_cons, List.take_zero, List.drop_succ_cons, List.drop_zero]
          still_step
          still_step
          still_step
          still_step
          still_step
          still_step
          still_step
          still_step
          still_step
          still_step
          still_step
          still_step
          still_step
          still_step
          still_call ((mul_c f fac (lf m j) wr.drew HTw.out h0 h8 bfac.1 bfac.2 bM.1 bM.2).mono fun _ _ h => ⟨h.1, h.2.symm⟩)
          still_call ((sub_c f (R (s + j)) (RS (fac * lf m j) (P f)) wr.drew HTw.out h0 h8 bR.1 bR.2 bX.1 bX.2).mono fun _ _ h => ⟨h.1, h.2.symm⟩)
          still_step
          refine wpStill_nil ?_
          change wpList _ _ _ _ _ wr.drew
          clear hw hi1 hi2 hi3 cR d2
          generalize wr.drew = W2 at *
          go_wp2
          go_roundw
          case rel => exact ⟨j + 1, by go_num, by omega, HS1.out, HS2.out, HS3.out⟩
          case measure => simp [intOf] <;> omega
        · have hdj : decide ((j : Int) < (k : Int) + 1) = false := decide_eq_false (by omega)
          obtain rfl : j = k + 1 := by omega
          have HOR := Lib.hid hor
          have HOQ := Lib.hid hoq
          clear hor hoq
          generalize dst f m R fac s (k + 1) = R' at *
          generalize upd Q s fac = Q' at *
          go_wp2_with fail
          go_loop [12] (fun sh => ∃ (u t : Nat), sh = .int .i64 u ∧ t = u + k + 1 ∧ t ≤ s + k + 1 ∧ Hid ((t = s + k + 1 ∧ DivAt f (lf l) m (u + k) Q' R') ∨ (t < s + k + 1 ∧ DivAt f (lf l) m t Q' R'))) (fun sh => (intOf sh).toNat)
          case atStart => exact ⟨s, s + k + 1, rfl, rfl, Nat.le_refl _, Lib.hid (.inl ⟨rfl, HN.out⟩)⟩
          case round =>
            clear HN
            obtain ⟨u, t, rfl, ht1, ht2, HD2⟩ := hrel
            have huk : u + k < l.length := by omega
            have cR := World.rowIs.cell HOR.out huk
            by_cases hz : R' (u + k) = 0
            · have HD3 : Hid (DivAt f (lf l) m (u + k) Q' R') := Lib.hid (by
                rcases HD2.out with ⟨_, h⟩ | ⟨_, h⟩
                · exact h
                · rw [ht1] at h; exact h.skip hz)
              have ez : (R' (u + k) == 0) = true := by simp [hz]
              clear hz HD2
              by_cases hu : u = 0
              · subst hu
                have HD3' : Hid (DivAt f (lf l) m k Q' R') := Lib.hid (by have := HD3.out; rwa [Nat.zero_add] at this)
                rw [Nat.zero_add] at cR ez
                clear HD3
                have HP2 := Lib.hid (poly_own (u := wr) (by omega) HOR.out (fun j _ => rfl) (Below.refl _ _))
                have hlt1 := HOR.out.lt
                go_wp2_with fail
                refine HP2.out.mono ?_
                rintro e w2 ⟨g2, rfl, hg2, hO2, hB2⟩
                have HF := Lib.hid (HFIN.out wr w2 g2 k Q' R' HD3'.out (by omega) (by omega) HZ'.out (by omega) (HOQ.out.keep hB2) hO2 (below_up hb hB2 hb.size))
                clear hO2 HP2
                go_wp2
                (try rw [Exit.noGoto_ret])
                go_ret2
                exact HF.out
              · obtain ⟨v, rfl⟩ : ∃ v, u = v + 1 := ⟨u - 1, by omega⟩
                have HD4 : Hid ((v + k + 1 = s + k + 1 ∧ DivAt f (lf l) m (v + k) Q' R') ∨ (v + k + 1 < s + k + 1 ∧ DivAt f (lf l) m (v + k + 1) Q' R')) := Lib.hid (.inr ⟨by omega, by have := HD3.out; rwa [show v + 1 + k = v + k + 1 by omega] at this⟩)
                clear HD3
                go_wp2
                go_round
                case rel => exact ⟨v, v + k + 1, by go_num, rfl, by omega, HD4⟩
                case measure => simp [intOf] <;> omega
            · have ez : (R' (u + k) == 0) = false := by simp [hz]
              have HD3 : Hid (t < s + k + 1 ∧ DivAt f (lf l) m t Q' R') := Lib.hid (by
                rcases HD2.out with ⟨_, h⟩ | h
                · exact absurd (h.2.2.2.1 (u + k) (Nat.le_refl _)) hz
                · exact h)
              have hlt4 := HD3.out.1
              clear hz HD2
              go_wp2
              go_roundw
              case rel => exact ⟨u, t, Q', R', rfl, by omega, by omega, Lib.hid HD3.out.2, HZ', HOQ.out, HOR.out, hb⟩
              case measure => simp [intOf] <;> omega
    · have hd0 : decide ((0 : Int) ≤ sI) = false := decide_eq_false hs0
      have HP2 := Lib.hid (poly_own (u := wr) (by omega) hor (fun j _ => rfl) (Below.refl _ _))
      have hlt1 := hor.lt
      have HO := Lib.hid hoq
      clear hoq hor
      go_wp2_with fail
      refine HP2.out.mono ?_
      rintro e w2 ⟨g2, rfl, hg2, hO2, hB2⟩
      have HF := Lib.hid (HFIN.out wr w2 g2 n' Q R HD.out (by omega) hnn HZ.out (by omega) (HO.out.keep hB2) hO2 (below_up hb hB2 hb.size))
      clear hO2 HP2
      go_wp2
      (try rw [Exit.noGoto_ret])
      go_ret2
      exact HF.out
end Go.Proofs.YtoohhcfanllhmaaDoor
namespace Go.Proofs.YtoohhcfanllhmaaDoor
open Go.RowKit
/-- The row within a round: the first j of row i done. -/
def prw (f : Int) (A B : Nat → Int) (i j : Nat) : Nat → Int := fun k => if i ≤ k ∧ k < i + j then RS (cpar A B k (i + 1)) (P f) else RS (cpar A B k i) (P f)
theorem prw_zero (f : Int) (A B : Nat → Int) (i k : Nat) : RS (cpar A B k i) (P f) = prw f A B i 0 k := by unfold prw; rw [if_neg (by omega)]
theorem prw_at (f : Int) (A B : Nat → Int) (i j : Nat) : prw f A B i j (i + j) = RS (cpar A B (i + j) i) (P f) := by unfold prw; rw [if_neg (by omega)]
theorem prw_new (f : Int) (A B : Nat → Int) (i j : Nat) : RS (RS (cpar A B (i + j) i) (P f) + A i * B j) (P f) = RS (cpar A B (i + j) (i + 1)) (P f) := by
  rw [cpar_succ, if_pos (by omega), Nat.add_sub_cancel_left]
  unfold RS
  exact emod_add_congr (by simp) rfl
theorem prw_succ (f : Int) (A B : Nat → Int) (i j k : Nat) : (if k = i + j then RS (cpar A B (i + j) (i + 1)) (P f) else prw f A B i j k) = prw f A B i (j + 1) k := by
  unfold prw
  by_cases h : k = i + j
  · subst h
    rw [if_pos rfl, if_pos (by omega)]
  · rw [if_neg h]
    by_cases h1 : i ≤ k ∧ k < i + j
    · rw [if_pos h1, if_pos (by omega)]
    · rw [if_neg h1, if_neg (by omega)]
theorem prw_end {f : Int} {A B : Nat → Int} {m : Nat} (hB : ∀ j, m ≤ j → B j = 0) (i k : Nat) : prw f A B i m k = RS (cpar A B k (i + 1)) (P f) := by
  unfold prw
  split
  · rfl
  · rename_i h
    rw [cpar_succ]
    by_cases h1 : i ≤ k
    · rw [if_pos h1, hB (k - i) (by omega), Int.mul_zero, Int.add_zero]
    · rw [if_neg h1, Int.add_zero]
theorem prw_set {f : Int} {wr : World} {g N i j : Nat} {A B : Nat → Int} (h : Own wr g N (prw f A B i j)) : Own (wr.setCell ⟨g, i + j, none⟩ (.int .i64 (RS (cpar A B (i + j) (i + 1)) (P f)))) g N (prw f A B i (j + 1)) := by
  refine (World.rowIs.set h (i + j) (.int .i64 (RS (cpar A B (i + j) (i + 1)) (P f)))).congr fun k _ => ?_
  rw [← prw_succ]
  split <;> rfl
set_option maxRecDepth 100000 in
set_option maxHeartbeats 3200000 in
theorem product_some (f : Int) (b off b2 off2 n m cap cap2 N : Nat) (A B : Nat → Int) (w : World) (ht : Tab w) (h0 : 0 ≤ f) (h8 : f ≤ 8) (hn : n ≤ 4096) (hm : m ≤ 4096) (n0 : 0 < n) (m0 : 0 < m) (hN : n + m = N + 1)
    (hA : ∀ j, 0 ≤ A j ∧ A j < P f) (hB : ∀ j, 0 ≤ B j ∧ B j < P f) (hB2 : ∀ j, m ≤ j → B j = 0) (hlt : b < w.heap.size) (hlt2 : b2 < w.heap.size)
    (hc : ∀ j, j < n → w.cell? ⟨b, off + j, none⟩ = some (.int .i64 (A j))) (hc2 : ∀ j, j < m → w.cell? ⟨b2, off2 + j, none⟩ = some (.int .i64 (B j))) :
    Calls Tryd.prog 33 #[.int .i64 f, .slice (some ⟨b, off, none⟩) n cap, .slice (some ⟨b2, off2, none⟩) m cap2] w fun e w' => e = .returned (.slice (some ⟨w.heap.size, 0, none⟩) N N) ∧ Own w' w.heap.size N (fun k => RS (cpar A B k n) (P f)) ∧ Below w.heap.size w w' := by
  have HC := Lib.hid hc
  have HC2 := Lib.hid hc2
  have HA := Lib.hid hA
  have HB := Lib.hid hB
  have HB2 := Lib.hid hB2
  clear hc hc2 hA hB hB2
  have hp := P_bd h0 h8
  have z1 : ((n : Int) == 0) = false := by simp; omega
  have z2 : ((m : Int) == 0) = false := by simp; omega
  have hmk : ∀ w, (Instr.makeSlice 24 (.int .i64 ((n : Int) + m - 1)) (.int .i64 ((n : Int) + m - 1))).run Tryd.prog w = .ok (.slice (some ⟨w.heap.size, 0, none⟩) N N) (w.alloc (.cells (madeCells #[.int .i64 0] N) 3)) := fun w => by
    rw [show ((n : Int) + m - 1) = (N : Int) by omega]; exact made_n N (by omega) w
  go_enter Tryd.func33, Tryd.ntmps33
  go_wp2_with fail
  clear hmk
  go_loopw [8, 9, 10, 11, 30] (fun _ _ _ _ i wr => ∃ k : Nat, i = .int .i64 k ∧ k ≤ n ∧ Own wr w.heap.size N (fun j => RS (cpar A B j k) (P f)) ∧ Below w.heap.size w wr) (fun _ _ _ _ i _ => n - (intOf i).toNat)
  case atStart =>
    refine ⟨0, rfl, Nat.zero_le _, ?_, (Below.refl _ _).alloc (Nat.le_refl _) _⟩
    exact (World.rowIs_made w (.int .i64 0) N 3).congr fun j _ => by simp [cpar, sumN, RS]
  case round =>
    obtain ⟨i, rfl, hi, ho, hb⟩ := hrel
    by_cases h1 : i < n
    · have d1 : wr.cell? ⟨b, off + i, none⟩ = some (.int .i64 (A i)) := (hb.cell (p := ⟨b, off + i, none⟩) hlt).trans (HC.out i h1)
      have bA := HA.out i
      have HO := Lib.hid (own_congr ho rfl (fun k _ => prw_zero f A B i k))
      clear ho
      go_wp2_with fail
      go_loopw [10, 11, 37] (fun _ _ i2 wr => ∃ j : Nat, i2 = .int .i64 j ∧ j ≤ m ∧ Own wr w.heap.size N (prw f A B i j) ∧ Below w.heap.size w wr) (fun _ _ i2 _ => m - (intOf i2).toNat)
      case atStart => exact ⟨0, rfl, Nat.zero_le _, HO.out, hb⟩
      case round =>
        clear HO d1 hb
        obtain ⟨j, rfl, hj, ho, hb⟩ := hrel
        by_cases h2 : j < m
        · have d2 : wr.cell? ⟨b2, off2 + j, none⟩ = some (.int .i64 (B j)) := (hb.cell (p := ⟨b2, off2 + j, none⟩) hlt2).trans (HC2.out j h2)
          have hij : i + j < N := by omega
          have c2 := World.rowIs.cell ho hij
          rw [prw_at] at c2
          have c3 := World.rowIs.frozen ho (i + j)
          have HT := Lib.hid (ht.below hb)
          have bB := HB.out j
          have pb := prod_bd h0 h8 bA.1 bA.2 bB.1 bB.2
          have pr := RS_bd (x := cpar A B (i + j) i) (m := P f) (by omega)
          have HS := Lib.hid (prw_set ho)
          have HE := Lib.hid (prw_new f A B i j)
          clear ho
          generalize RS (cpar A B (i + j) i) (P f) = X at *
          go_wp2_with fail
          refine (reduce_c f (X + A i * B j) wr HT.out h0 h8).mono ?_
          rintro e w' ⟨rfl, rfl⟩
          rw [HE.out]
          go_wp2
          go_roundw
          case rel => exact ⟨j + 1, by go_num, by omega, HS.out, hb.setCell (Nat.le_refl _) _⟩
          case measure => simp [intOf]; omega
        · have hd2 : decide (j < m) = false := by simpa using h2
          obtain rfl : j = m := by omega
          have HO := Lib.hid (own_congr ho rfl (fun k _ => prw_end HB2.out i k))
          clear ho
          go_wp2
          go_roundw
          case rel => exact ⟨i + 1, by go_num, by omega, HO.out, hb⟩
          case measure => simp [intOf]; omega
    · have hd : decide (i < n) = false := by simpa using h1
      obtain rfl : i = n := by omega
      have HO := Lib.hid ho
      clear ho
      go_wp2
      go_ret
      exact ⟨rfl, HO.out, hb⟩
theorem product_none (f : Int) (a a2 : Option Addr) (n m cap cap2 : Nat) (w : World) (hz : n = 0 ∨ m = 0) :
    Calls Tryd.prog 33 #[.int .i64 f, .slice a n cap, .slice a2 m cap2] w (OwnG w []) := by
  have HP := poly_none none 0 (fun _ => 0) w
  rw [show cutL 0 (fun _ => 0) = [] from rfl] at HP
  by_cases h1 : n = 0
  · subst h1
    go_enter Tryd.func33, Tryd.ntmps33
    go_wp2_with fail
    refine HP.mono ?_
    rintro e w2 ⟨g, rfl, hg, hO, hB⟩
    have HO := Lib.hid hO
    clear hO
    go_wp2
    go_ret
    exact ⟨g, rfl, hg, HO.out, hB⟩
  · obtain rfl : m = 0 := by omega
    have z1 : ((n : Int) == 0) = false := by simp; omega
    go_enter Tryd.func33, Tryd.ntmps33
    go_wp2_with fail
    refine HP.mono ?_
    rintro e w2 ⟨g, rfl, hg, hO, hB⟩
    have HO := Lib.hid hO
    clear hO
    go_wp2
    go_ret
    exact ⟨g, rfl, hg, HO.out, hB⟩
theorem product_c (f : Int) (a a2 : Option Addr) (l m : List Int) (cap cap2 : Nat) (w : World) (ht : Tab w) (h0 : 0 ≤ f) (h8 : f ≤ 8) (hn : l.length ≤ 4096) (hm : m.length ≤ 4096) (hl : Pol f l) (hm2 : Pol f m) (hs : Src w a l.length (lf l)) (hs2 : Src w a2 m.length (lf m)) :
    Calls Tryd.prog 33 #[.int .i64 f, .slice a l.length cap, .slice a2 m.length cap2] w (OwnG w (mulL f l m)) := by
  by_cases hz : l.length = 0 ∨ m.length = 0
  · have e : mulL f l m = [] := by
      rcases hz with h | h
      · rw [List.eq_nil_of_length_eq_zero h, mulL_nil_l]
      · rw [List.eq_nil_of_length_eq_zero h, mulL_nil_r]
    rw [e]
    exact product_none f a a2 l.length m.length cap cap2 w hz
  · rcases hs with h | ⟨b, off, rfl, hlt, hc⟩
    · exact absurd (.inl h) hz
    · rcases hs2 with h | ⟨b2, off2, rfl, hlt2, hc2⟩
      · exact absurd (.inr h) hz
      · refine (product_some f b off b2 off2 l.length m.length cap cap2 (l.length + m.length - 1) (lf l) (lf m) w ht h0 h8 hn hm (by omega) (by omega) (by omega) hl.1 hm2.1 (fun j hj => lf_out m hj) hlt hlt2 hc hc2).mono ?_
        rintro e w' ⟨rfl, ho, hb⟩
        refine OwnG.of_own ho (mulL_len h0 h8 hl hm2 (by omega) (by omega)).symm (Nat.le_refl _) (fun j hj => ?_) hb
        rw [lf_mulL, cpar_end j (fun i hi => lf_out l hi)]; rfl
/-- The specification's sum for one coefficient. -/
theorem mul_step {f : Int} (A B : Nat → Int) (k j : Nat) (h : j ≤ k) : RS (RS (cpar A B k j) (P f) + A j * B (k - j)) (P f) = RS (cpar A B k (j + 1)) (P f) := by
  rw [cpar_succ, if_pos h]
  unfold RS
  exact emod_add_congr (by simp) rfl
theorem mul_skip {f : Int} {A B : Nat → Int} {m : Nat} (hB : ∀ j, m ≤ j → B j = 0) {k j : Nat} (h : j ≤ k) (h2 : m ≤ k - j) : RS (cpar A B k j) (P f) = RS (cpar A B k (j + 1)) (P f) := by
  rw [cpar_succ, if_pos h, hB _ h2, Int.mul_zero, Int.add_zero]
/-- At the end of the inner loop all that counts has been added. -/
theorem mul_done {f : Int} {A B : Nat → Int} {n : Nat} (hA : ∀ j, n ≤ j → A j = 0) {k j : Nat} (h : k < j ∨ n ≤ j) : RS (cpar A B k j) (P f) = RS (cv k A B) (P f) := by
  rcases h with h | h
  · rw [cv_sum]
    congr 1
    unfold cpar
    rw [sumN_congr (f := fun i => A i * B (k - i)) (g := fun j => if j ≤ k then A j * B (k - j) else 0) (fun i hi => by simp [show i ≤ k by omega])]
    exact sumN_more (by omega) (fun i h1 h2 => by simp [show ¬ i ≤ k by omega])
  · rw [← cpar_end k hA]
    congr 1
    unfold cpar
    exact sumN_more h (fun i h1 _ => by simp [hA i h1])
set_option maxRecDepth 100000 in
set_option maxHeartbeats 3200000 in
theorem lmul_some (f : Int) (b off b2 off2 n m cap cap2 N : Nat) (A B : Nat → Int) (w : World) (h0 : 0 ≤ f) (h8 : f ≤ 8) (hn : n ≤ 4096) (hm : m ≤ 4096) (n0 : 0 < n) (m0 : 0 < m) (hN : n + m = N + 1)
    (hA : ∀ j, 0 ≤ A j ∧ A j < P f) (hB : ∀ j, 0 ≤ B j ∧ B j < P f) (hA2 : ∀ j, n ≤ j → A j = 0) (hB2 : ∀ j, m ≤ j → B j = 0) (hlt : b < w.heap.size) (hlt2 : b2 < w.heap.size)
    (hc : ∀ j, j < n → w.cell? ⟨b, off + j, none⟩ = some (.int .i64 (A j))) (hc2 : ∀ j, j < m → w.cell? ⟨b2, off2 + j, none⟩ = some (.int .i64 (B j))) :
    Calls Tryd.prog 36 #[.int .i64 f, .slice (some ⟨b, off, none⟩) n cap, .slice (some ⟨b2, off2, none⟩) m cap2] w (OwnsL w (cutL N (fun k => RS (cv k A B) (P f)))) := by
  have HC := Lib.hid hc
  have HC2 := Lib.hid hc2
  have HA := Lib.hid hA
  have HB := Lib.hid hB
  have HB2 := Lib.hid hB2
  have HA2 := Lib.hid hA2
  clear hc hc2 hA hB hB2 hA2
  have hp := P_bd h0 h8
  have z1 : ((n : Int) == 0) = false := by simp; omega
  have z2 : ((m : Int) == 0) = false := by simp; omega
  obtain ⟨i0, hi, hz0, hz1, hz2⟩ := info_parts info3
  have HI := Lib.hid hi
  have HZ0 := Lib.hid hz0
  have HZ1 := Lib.hid hz1
  have HZ2 := Lib.hid hz2
  clear hi hz0 hz1 hz2
  go_enter Tryd.func36, Tryd.ntmps36
  go_wp2_with fail
  refine (sModulus f w).mono ?_
  rintro e w' ⟨rfl, rfl⟩
  go_wp2_with fail
  go_loopw [8, 9, 10, 11] (fun v i _ _ wr => ∃ k : Nat, i = .int .i64 k ∧ k ≤ N ∧ wr.ownsRow w.heap.size 3 1 v k (xsF (fun k => RS (cv k A B) (P f)) k) ∧ Below w.heap.size w wr) (fun _ i _ _ _ => N - (intOf i).toNat)
  case atStart => exact ⟨0, rfl, Nat.zero_le _, own_empty w _, (Below.refl _ _).alloc (Nat.le_refl _) _⟩
  case round =>
    obtain ⟨k, rfl, hk, hown, hnx⟩ := hrel
    by_cases h1 : k < N
    · have hd1 : decide ((k : Int) < (n : Int) + m - 1) = true := by simp; omega
      have HOWN := Lib.hid hown
      clear hown
      go_wp2_with fail
      go_loopw [10, 11] (fun s j wr2 => ∃ i : Nat, j = .int .i64 i ∧ i ≤ n ∧ i ≤ k + 1 ∧ s = .int .i64 (RS (cpar A B k i) (P f)) ∧ ∃ q, wr2 = wr.drewN q) (fun _ j _ => n - (intOf j).toNat)
      case atStart => exact ⟨0, rfl, Nat.zero_le _, Nat.zero_le _, by simp [cpar, sumN, RS], 0, rfl⟩
      case round =>
        obtain ⟨i, rfl, hin, hik, rfl, q, rfl⟩ := hrel
        have hbq := below_drewN hnx q
        by_cases h2 : i ≤ k
        · by_cases h3 : i < n
          · have d1 : wr.cell? ⟨b, off + i, none⟩ = some (.int .i64 (A i)) := (hnx.cell (p := ⟨b, off + i, none⟩) hlt).trans (HC.out i h3)
            by_cases h4 : k - i < m
            · have d2 : wr.cell? ⟨b2, off2 + (k - i), none⟩ = some (.int .i64 (B (k - i))) := (hnx.cell (p := ⟨b2, off2 + (k - i), none⟩) hlt2).trans (HC2.out _ h4)
              have hd4 : decide ((k : Int) - i < m) = true := by simp; omega
              have bA := HA.out i
              have bB := HB.out (k - i)
              have pb := prod_bd h0 h8 bA.1 bA.2 bB.1 bB.2
              have pr := RS_bd (x := cpar A B k i) (m := P f) (by omega)
              have HS := Lib.hid (mul_step (f := f) A B k i h2)
              have q1 : IntKind.i64.wrap ((k : Int) - i) = (k : Int) - i := IntWalk.i64_in _ (by omega)
              have q2 : ((k : Int) - i).toNat = k - i := by omega
              have q3 : (0 : Int) ≤ (k : Int) - i := by omega
              have q4 : (k : Int) - i < m := by omega
              have q5 : IntKind.i64.wrap (A i * B (k - i)) = A i * B (k - i) := IntWalk.i64_in _ (by omega)
              generalize RS (cpar A B k i) (P f) = X at *
              have q6 : IntKind.i64.wrap (X + A i * B (k - i)) = X + A i * B (k - i) := IntWalk.i64_in _ (by omega)
              have q7 : ¬ P f = 0 := by omega
              go_wp2
              go_quiet (fail)
              go_wp2
              go_roundw
              case rel => exact ⟨i + 1, by go_num, by omega, by omega, vint HS.out, _, rfl⟩
              case measure => simp [intOf]; omega
            · have hd4 : decide ((k : Int) - i < m) = false := by simp; omega
              have HS := Lib.hid (mul_skip (f := f) (A := A) HB2.out h2 (by omega))
              go_wp2
              go_roundw
              case rel => exact ⟨i + 1, by go_num, by omega, by omega, vint HS.out, q, rfl⟩
              case measure => simp [intOf]; omega
          · have hd3 : decide ((i : Int) < n) = false := by simp; omega
            have HE := Lib.hid (mul_done (f := f) (B := B) HA2.out (k := k) (j := i) (.inr (by omega)))
            have hown : (wr.drewN q).ownsRow w.heap.size 3 1 _ k (xsF (fun k => RS (cv k A B) (P f)) k) := HOWN.out
            have hs := hbq.size
            have hqs : (wr.drewN q).heap.size = wr.heap.size := rfl
            go_wp2_with (at_builtin; refine wpList_append_own _ rfl _ _ 24 rfl w.heap.size 3 i0 (.int .i64 0) 1 8 Tryd.underlying24 HI.out HZ0.out HZ1.out HZ2.out rfl (by decide) _ _ _ rfl (hown.alloc _) ⟨(wr.drewN q).heap.size, 0, none⟩ 1 1 [.int .i64 (RS (cpar A B k i) (P f))] rfl rfl ?c1 ?c2 ?c3 ?c4 ?c5 ?_)
            case c1 => exact cell_one_new _ _ _
            case c2 => intro u hu; simp at hu; subst hu; rfl
            case c3 => unfold maxLen; omega
            case c4 => omega
            case c5 => simp; omega
            intro v' w1 hown' hgrow _
            have hbel : Below w.heap.size w w1 := (hbq.alloc hs _).grown hgrow (by simp; omega) (own_ge hown)
            rw [vint HE.out, xsF_succ (fun k => RS (cv k A B) (P f))] at hown'
            clear hgrow hown HOWN
            go_wp2
            go_roundw
            case rel => exact ⟨k + 1, by go_num, by omega, hown', hbel⟩
            case measure => simp [intOf]; omega
        · have hd2 : decide ((i : Int) ≤ k) = false := by simp; omega
          have HE := Lib.hid (mul_done (f := f) (B := B) HA2.out (k := k) (j := i) (.inl (by omega)))
          have hown : (wr.drewN q).ownsRow w.heap.size 3 1 _ k (xsF (fun k => RS (cv k A B) (P f)) k) := HOWN.out
          have hs := hbq.size
          have hqs : (wr.drewN q).heap.size = wr.heap.size := rfl
          go_wp2_with (at_builtin; refine wpList_append_own _ rfl _ _ 24 rfl w.heap.size 3 i0 (.int .i64 0) 1 8 Tryd.underlying24 HI.out HZ0.out HZ1.out HZ2.out rfl (by decide) _ _ _ rfl (hown.alloc _) ⟨(wr.drewN q).heap.size, 0, none⟩ 1 1 [.int .i64 (RS (cpar A B k i) (P f))] rfl rfl ?d1 ?d2 ?d3 ?d4 ?d5 ?_)
          case d1 => exact cell_one_new _ _ _
          case d2 => intro u hu; simp at hu; subst hu; rfl
          case d3 => unfold maxLen; omega
          case d4 => omega
          case d5 => simp; omega
          intro v' w1 hown' hgrow _
          have hbel : Below w.heap.size w w1 := (hbq.alloc hs _).grown hgrow (by simp; omega) (own_ge hown)
          rw [vint HE.out, xsF_succ (fun k => RS (cv k A B) (P f))] at hown'
          clear hgrow hown HOWN
          go_wp2
          go_roundw
          case rel => exact ⟨k + 1, by go_num, by omega, hown', hbel⟩
          case measure => simp [intOf]; omega
    · have hd : decide ((k : Int) < (n : Int) + m - 1) = false := by simp; omega
      obtain rfl : k = N := by omega
      have HO := Lib.hid (cut_own (by omega) hown)
      clear hown
      go_wp2_with fail
      refine HO.out.mono ?_
      rintro e w2 ho
      obtain ⟨v2, rfl, ho2, hb2⟩ := ho.up hnx hnx.size
      have HO2 := Lib.hid ho2
      clear ho ho2 HO
      go_wp2
      go_ret
      exact ⟨_, rfl, HO2.out, hb2⟩
theorem lmul_none (f : Int) (a a2 : Option Addr) (n m cap cap2 : Nat) (w : World) (hz : n = 0 ∨ m = 0) :
    Calls Tryd.prog 36 #[.int .i64 f, .slice a n cap, .slice a2 m cap2] w (OwnsL w []) := by
  by_cases h1 : n = 0
  · subst h1
    go_enter Tryd.func36, Tryd.ntmps36
    go_wp2_with fail
    refine (sModulus f w).mono ?_
    rintro e w' ⟨rfl, rfl⟩
    go_wp2
    go_ret
    exact ⟨_, rfl, own_empty w _, (Below.refl _ _).alloc (Nat.le_refl _) _⟩
  · obtain rfl : m = 0 := by omega
    have z1 : ((n : Int) == 0) = false := by simp; omega
    go_enter Tryd.func36, Tryd.ntmps36
    go_wp2_with fail
    refine (sModulus f w).mono ?_
    rintro e w' ⟨rfl, rfl⟩
    go_wp2
    go_ret
    exact ⟨_, rfl, own_empty w _, (Below.refl _ _).alloc (Nat.le_refl _) _⟩
theorem lmul_c (f : Int) (a a2 : Option Addr) (l m : List Int) (cap cap2 : Nat) (w : World) (h0 : 0 ≤ f) (h8 : f ≤ 8) (hn : l.length ≤ 4096) (hm : m.length ≤ 4096) (hl : Pol f l) (hm2 : Pol f m) (hs : Src w a l.length (lf l)) (hs2 : Src w a2 m.length (lf m)) :
    Calls Tryd.prog 36 #[.int .i64 f, .slice a l.length cap, .slice a2 m.length cap2] w (OwnsL w (mulL f l m)) := by
  by_cases hz : l.length = 0 ∨ m.length = 0
  · have e : mulL f l m = [] := by
      rcases hz with h | h
      · rw [List.eq_nil_of_length_eq_zero h, mulL_nil_l]
      · rw [List.eq_nil_of_length_eq_zero h, mulL_nil_r]
    rw [e]
    exact lmul_none f a a2 l.length m.length cap cap2 w hz
  · rcases hs with h | ⟨b, off, rfl, hlt, hc⟩
    · exact absurd (.inl h) hz
    · rcases hs2 with h | ⟨b2, off2, rfl, hlt2, hc2⟩
      · exact absurd (.inr h) hz
      · exact lmul_some f b off b2 off2 l.length m.length cap cap2 (l.length + m.length - 1) (lf l) (lf m) w h0 h8 hn hm (by omega) (by omega) (by omega) hl.1 hm2.1 (fun j hj => lf_out l hj) (fun j hj => lf_out m hj) hlt hlt2 hc hc2
end Go.Proofs.YtoohhcfanllhmaaDoor
namespace Go.Proofs.YtoohhcfanllhmaaDoor
open Go.RowKit
theorem divide_c (f : Int) (a a2 : Option Addr) (l m : List Int) (cap cap2 : Nat) (w : World) (ht : Tab w) (h0 : 0 ≤ f) (h8 : f ≤ 8) (hn : l.length ≤ 4096) (hn2 : m.length ≤ 4096) (hz : m.length ≠ 0) (hl : Pol f l) (hm : Pol f m) (hs : Src w a l.length (lf l)) (hs2 : Src w a2 m.length (lf m)) :
    Calls Tryd.prog 32 #[.int .i64 f, .slice a l.length cap, .slice a2 m.length cap2] w (DivR f l m w) := by
  obtain ⟨k, hk⟩ : ∃ k, m.length = k + 1 := ⟨m.length - 1, by omega⟩
  rcases hs2 with h | ⟨b2, off2, rfl, hlt2, hc2⟩
  · exact absurd h hz
  · have hk2 : k + 1 ≤ 4096 := by omega
    rw [hk] at hc2
    have e : #[Value.int .i64 f, .slice a l.length cap, .slice (some ⟨b2, off2, none⟩) m.length cap2] = #[Value.int .i64 f, .slice a l.length cap, .slice (some ⟨b2, off2, none⟩) (k + 1) cap2] := by rw [hk]
    rw [e]
    rcases Nat.lt_trichotomy l.length k with h | h | h
    · exact divide_lt f a b2 off2 k l m cap cap2 w ht h0 h8 hn hk hk2 h hl hm hs hlt2 hc2
    · exact divide_eq f a b2 off2 k l m cap cap2 w ht h0 h8 hn hk hk2 (by omega) (by omega) hl hm hs hlt2 hc2
    · exact divide_ge f a b2 off2 k l m cap cap2 w ht h0 h8 hn hk hk2 (l.length - k) (by omega) (by omega) hl hm hs hlt2 hc2
set_option maxRecDepth 100000 in
theorem remainder_c (f : Int) (a a2 : Option Addr) (l m : List Int) (cap cap2 : Nat) (w : World) (ht : Tab w) (h0 : 0 ≤ f) (h8 : f ≤ 8) (hn : l.length ≤ 4096) (hn2 : m.length ≤ 4096) (hz : m.length ≠ 0) (hl : Pol f l) (hm : Pol f m) (hs : Src w a l.length (lf l)) (hs2 : Src w a2 m.length (lf m)) :
    Calls Tryd.prog 64 #[.int .i64 f, .slice a l.length cap, .slice a2 m.length cap2] w (OwnG w (remL f l m)) := by
  have HD := Lib.hid (divide_c f a a2 l m cap cap2 w ht h0 h8 hn hn2 hz hl hm hs hs2)
  have HU : Hid (∀ q r, DivP f l m q r → remL f l m = r) := Lib.hid fun q r h => remL_eq h0 h8 hm h.isRem
  clear hs hs2
  go_enter Tryd.func64, Tryd.ntmps64
  go_wp2_with fail
  refine HD.out.mono ?_
  rintro e w2 ⟨gq, gr, q, r, rfl, hdiv, h1, h2, h3, h4, hb⟩
  have HE := Lib.hid (HU.out q r hdiv)
  have HO := Lib.hid h4
  clear h3 h4 hdiv HU
  go_wp2
  go_ret
  exact ⟨gr, by rw [HE.out]; rfl, by omega, by rw [HE.out]; exact HO.out, hb⟩
/-- A row with room: the first n cells are known. -/
def OwnV (w : World) (g n cap : Nat) (F : Nat → Int) : Prop := ∃ V, w.rowIs g 3 cap V ∧ n ≤ cap ∧ ∀ j, j < n → V j = .int .i64 (F j)
theorem OwnV.cell {w : World} {g n cap : Nat} {F : Nat → Int} (h : OwnV w g n cap F) {j : Nat} (hj : j < n) : w.cell? ⟨g, j, none⟩ = some (.int .i64 (F j)) := by
  obtain ⟨V, h1, h2, h3⟩ := h
  rw [← h3 j hj]
  exact World.rowIs.cell h1 (by omega)
theorem OwnV.frozen {w : World} {g n cap : Nat} {F : Nat → Int} (h : OwnV w g n cap F) (j : Nat) : w.frozen? ⟨g, j, none⟩ = false := by
  obtain ⟨V, h1, h2, h3⟩ := h
  exact World.rowIs.frozen h1 j
theorem OwnV.lt {w : World} {g n cap : Nat} {F : Nat → Int} (h : OwnV w g n cap F) : g < w.heap.size := by
  obtain ⟨V, h1, _⟩ := h
  exact World.rowIs.lt h1
theorem OwnV.set {w : World} {g n cap s : Nat} {F : Nat → Int} {x : Int} (h : OwnV w g n cap F) : OwnV (w.setCell ⟨g, s, none⟩ (.int .i64 x)) g n cap (upd F s x) := by
  obtain ⟨V, h1, h2, h3⟩ := h
  refine ⟨_, World.rowIs.set h1 s (.int .i64 x), h2, fun j hj => ?_⟩
  unfold upd
  by_cases e : j = s
  · simp [e]
  · simp [e, h3 j hj]
theorem OwnV.other {w : World} {g g2 n cap s : Nat} {F : Nat → Int} {v : Value} (h : OwnV w g n cap F) (hne : g ≠ g2) : OwnV (w.setCell ⟨g2, s, none⟩ v) g n cap F := by
  obtain ⟨V, h1, h2, h3⟩ := h
  exact ⟨V, World.rowIs.setOther h1 (a := ⟨g2, s, none⟩) hne v, h2, h3⟩
theorem OwnV.keep {w w' : World} {g n cap : Nat} {F : Nat → Int} (h : OwnV w g n cap F) (hb : Below w.heap.size w w') : OwnV w' g n cap F := by
  obtain ⟨V, h1, h2, h3⟩ := h
  exact ⟨V, World.rowIs.of_block h1 (hb.block g (World.rowIs.lt h1)), h2, h3⟩
theorem OwnV.congr {w : World} {g n cap : Nat} {F G : Nat → Int} (h : OwnV w g n cap F) (e : ∀ j, j < n → F j = G j) : OwnV w g n cap G := by
  obtain ⟨V, h1, h2, h3⟩ := h
  exact ⟨V, h1, h2, fun j hj => by rw [h3 j hj, e j hj]⟩
theorem OwnV.src {w : World} {g n cap : Nat} {F : Nat → Int} (h : OwnV w g n cap F) : Src w (some ⟨g, 0, none⟩) n F :=
  .inr ⟨g, 0, rfl, h.lt, fun j hj => by rw [Nat.zero_add]; exact h.cell hj⟩
theorem OwnV.of_owns {w : World} {base n : Nat} {v : Value} {F : Nat → Int} (h : w.ownsRow base 3 1 v n (xsF F n)) (hn : n ≠ 0) : ∃ g cap, v = .slice (some ⟨g, 0, none⟩) n cap ∧ base ≤ g ∧ OwnV w g n cap F := by
  obtain ⟨hl, h⟩ := h
  rcases h with ⟨h1, h2⟩ | ⟨g, cap, cur, h1, hg, hh, hc, hm, hs, ht⟩
  · exact absurd h2 hn
  · refine ⟨g, cap, h1, hg, fun j => (cur[j]?).getD .nilIface, ⟨cur, hh, by omega, fun j hj => ?_⟩, hc, fun j hj => ?_⟩
    · have : j < cur.size := by omega
      simp [this]
    · have hx : (xsF F n)[j]? = some (.int .i64 (F j)) := by simp [xsF, hj]
      rw [← ht, List.getElem?_take_of_lt (by omega)] at hx
      have : cur[j]? = some (.int .i64 (F j)) := by simpa using hx
      show (cur[j]?).getD .nilIface = _
      rw [this]; rfl
def DivS (f : Int) (l m : List Int) (w : World) (e : Ending) (w' : World) : Prop := ∃ aq capq ar capr q r, e = .returned (.tuple #[.slice aq (List.length q) capq, .slice ar (List.length r) capr]) ∧ DivP f l m q r ∧ Src w' aq (List.length q) (lf q) ∧ Src w' ar (List.length r) (lf r) ∧ Below w.heap.size w w'
set_option maxRecDepth 100000 in
set_option maxHeartbeats 3200000 in
theorem ldiv_lt (f : Int) (a : Option Addr) (b2 off2 k : Nat) (l m : List Int) (cap cap2 : Nat) (w : World) (h0 : 0 ≤ f) (h8 : f ≤ 8) (hn : l.length ≤ 4096) (hk : m.length = k + 1) (hk2 : k + 1 ≤ 4096) (hlt : l.length < k + 1) (hl : Pol f l) (hm : Pol f m) (hs : Src w a l.length (lf l)) (hlt2 : b2 < w.heap.size) (hc2 : ∀ j, j < k + 1 → w.cell? ⟨b2, off2 + j, none⟩ = some (.int .i64 (lf m j))) :
    Calls Tryd.prog 38 #[.int .i64 f, .slice a l.length cap, .slice (some ⟨b2, off2, none⟩) (k + 1) cap2] w (DivS f l m w) := by
  have hp := P_bd h0 h8
  have HCP := Lib.hid (copy_c a l.length cap (lf l) w (by omega) hs)
  have bm := hm.1 k
  have HC2 := Lib.hid hc2
  have HB := Lib.hid hm.1
  have bmz : lf m k ≠ 0 := by
    rcases hm.2 with h | h
    · omega
    · rw [hk] at h; exact h
  have bz : RS (lf m k) (P f) ≠ 0 := by rw [RS_self bm.1 bm.2]; exact bmz
  have BI := inv_one h0 h8 bz
  have HINV : Hid ((lf m k * mPower f (lf m k) (-1)) % P f = 1 % P f) := Lib.hid (by
    have := BI.1
    rw [RS_self bm.1 bm.2, Int.mul_comm] at this
    rw [show (1 : Int) % P f = 1 from Int.emod_eq_of_lt (by omega) (by omega)]
    exact this)
  have HST : Hid (DivAt f (lf l) m l.length (fun _ => 0) (lf l)) := Lib.hid (DivAt.start hl (P_pos h0 h8))
  clear hs hc2 bz bmz
  obtain ⟨i0, hi, hz0, hz1, hz2⟩ := info_parts info3
  have HI := Lib.hid hi
  have HZ0 := Lib.hid hz0
  have HZ1 := Lib.hid hz1
  have HZ2 := Lib.hid hz2
  clear hi hz0 hz1 hz2
  go_enter Tryd.func38, Tryd.ntmps38
  go_wp2_with fail
  refine HCP.out.mono ?_
  rintro e w1 ⟨vr, rfl, hown1, hb1⟩
  obtain ⟨a3, cap3, rfl, hcap3, hs3⟩ := src_of_owns2 hown1
  have HS3 := Lib.hid hs3
  clear hown1 hs3 HCP
  go_wp2_with fail
  go_loopw [9, 10] (fun v i wr => ∃ i2 : Nat, i = .int .i64 i2 ∧ i2 ≤ l.length ∧ wr.ownsRow w1.heap.size 3 1 v i2 (xsF (fun _ => 0) i2) ∧ Below w1.heap.size w1 wr) (fun _ i _ => l.length - (intOf i).toNat)
  case atStart => exact ⟨0, rfl, Nat.zero_le _, own_empty w1 _, (Below.refl _ _).alloc (Nat.le_refl _) _⟩
  case round =>
    obtain ⟨i, rfl, hil, hown, hnx⟩ := hrel
    by_cases h1 : i < l.length
    · have hd1 : decide ((i : Int) < l.length) = true := decide_eq_true (by omega)
      have hs := hnx.size
      go_wp2_with (at_builtin; refine wpList_append_own _ rfl _ _ 24 rfl w1.heap.size 3 i0 (.int .i64 0) 1 8 Tryd.underlying24 HI.out HZ0.out HZ1.out HZ2.out rfl (by decide) _ _ _ rfl (hown.alloc _) ⟨wr.heap.size, 0, none⟩ 1 1 [.int .i64 0] rfl rfl ?c1 ?c2 ?c3 ?c4 ?c5 ?_)
      case c1 => exact cell_one_new _ _ _
      case c2 => intro u hu; simp at hu; subst hu; rfl
      case c3 => unfold maxLen; omega
      case c4 => omega
      case c5 => simp; omega
      intro v' w2 hown' hgrow _
      have hbel : Below w1.heap.size w1 w2 := (hnx.alloc hs _).grown hgrow (by simp; omega) (own_ge hown)
      rw [xsF_succ (fun _ => 0)] at hown'
      clear hgrow hown
      go_wp2
      go_roundw
      case rel => exact ⟨i + 1, by go_num, by omega, hown', hbel⟩
      case measure => simp [intOf]; omega
    · have hd1 : decide ((i : Int) < l.length) = false := decide_eq_false (by omega)
      obtain rfl : i = l.length := by omega
      have hbw := below_up hb1 hnx hb1.size
      have c2 : wr.cell? ⟨b2, off2 + k, none⟩ = some (.int .i64 (lf m k)) := (hbw.cell (p := ⟨b2, off2 + k, none⟩) hlt2).trans (HC2.out k (by omega))
      have HCQ := Lib.hid (cut_own (by omega) hown)
      have HSR := Lib.hid (HS3.out.keep hnx)
      have hdk : decide ((k : Int) + 1 ≤ (l.length : Int)) = false := decide_eq_false (by omega)
      have HF : Hid (DivP f l m (cutL l.length (fun _ => 0)) (cutL l.length (lf l))) := Lib.hid (HST.out.divP (by omega) (by omega) (Nat.le_refl _) (fun _ _ => rfl))
      clear hown HS3 HST
      go_wp2_with fail
      refine (sInverse f (lf m k) wr).mono ?_
      rintro e w' ⟨rfl, rfl⟩
      go_wp2_with fail
      refine wp_loop_rounds 1 ?_
      rw [rounds_succ]
      go_wp2_with fail
      refine HCQ.out.mono ?_
      rintro e w4 hoq
      obtain ⟨aq, capq, rfl, hsq, hb4⟩ := hoq.list
      have HSQ := Lib.hid hsq
      have HCR := Lib.hid (cut_c a3 l.length cap3 (lf l) w4 (by omega) hcap3 (HSR.out.keep hb4))
      clear hoq hsq HCQ
      go_wp2_with fail
      refine HCR.out.mono ?_
      rintro e w5 hor
      obtain ⟨ar, capr, rfl, hsr, hb5⟩ := hor.list
      have HRES : Hid (Src w5 aq (cutL l.length (fun _ => 0)).length (lf (cutL l.length (fun _ => 0))) ∧ Src w5 ar (cutL l.length (lf l)).length (lf (cutL l.length (lf l))) ∧ Below w.heap.size w w5) := Lib.hid ⟨HSQ.out.keep hb5, hsr, below_up (below_up hbw hb4 hbw.size) hb5 (Nat.le_trans hbw.size hb4.size)⟩
      clear hor hsr HCR HSQ
      go_wp2
      go_ret2
      exact ⟨aq, capq, ar, capr, _, _, rfl, HF.out, HRES.out⟩
set_option maxRecDepth 100000 in
set_option maxHeartbeats 6400000 in
theorem ldiv_ge (f : Int) (a : Option Addr) (b2 off2 k : Nat) (l m : List Int) (cap cap2 : Nat) (w : World) (h0 : 0 ≤ f) (h8 : f ≤ 8) (hn : l.length ≤ 4096) (hk : m.length = k + 1) (hk2 : k + 1 ≤ 4096) (hle : k + 1 ≤ l.length) (hl : Pol f l) (hm : Pol f m) (hs : Src w a l.length (lf l)) (hlt2 : b2 < w.heap.size) (hc2 : ∀ j, j < k + 1 → w.cell? ⟨b2, off2 + j, none⟩ = some (.int .i64 (lf m j))) :
    Calls Tryd.prog 38 #[.int .i64 f, .slice a l.length cap, .slice (some ⟨b2, off2, none⟩) (k + 1) cap2] w (DivS f l m w) := by
  have hp := P_bd h0 h8
  have HCP := Lib.hid (copy_c a l.length cap (lf l) w (by omega) hs)
  have bm := hm.1 k
  have HC2 := Lib.hid hc2
  have HB := Lib.hid hm.1
  have bmz : lf m k ≠ 0 := by
    rcases hm.2 with h | h
    · omega
    · rw [hk] at h; exact h
  have bz : RS (lf m k) (P f) ≠ 0 := by rw [RS_self bm.1 bm.2]; exact bmz
  have BI := inv_one h0 h8 bz
  have HINV : Hid ((lf m k * mPower f (lf m k) (-1)) % P f = 1 % P f) := Lib.hid (by
    have := BI.1
    rw [RS_self bm.1 bm.2, Int.mul_comm] at this
    rw [show (1 : Int) % P f = 1 from Int.emod_eq_of_lt (by omega) (by omega)]
    exact this)
  have HST : Hid (DivAt f (lf l) m l.length (fun _ => 0) (lf l)) := Lib.hid (DivAt.start hl (P_pos h0 h8))
  clear hs hc2 bz bmz
  obtain ⟨i0, hi, hz0, hz1, hz2⟩ := info_parts info3
  have HI := Lib.hid hi
  have HZ0 := Lib.hid hz0
  have HZ1 := Lib.hid hz1
  have HZ2 := Lib.hid hz2
  clear hi hz0 hz1 hz2
  go_enter Tryd.func38, Tryd.ntmps38
  go_wp2_with fail
  refine HCP.out.mono ?_
  rintro e w1 ⟨vr, rfl, hown1, hb1⟩
  obtain ⟨gr, capr, rfl, hgr, hvr⟩ := OwnV.of_owns hown1 (by omega)
  have HVR := Lib.hid hvr
  have hgr1 := hvr.lt
  clear hown1 hvr HCP
  go_wp2_with fail
  go_loopw [9, 10] (fun v i wr => ∃ i2 : Nat, i = .int .i64 i2 ∧ i2 ≤ l.length ∧ wr.ownsRow w1.heap.size 3 1 v i2 (xsF (fun _ => 0) i2) ∧ Below w1.heap.size w1 wr) (fun _ i _ => l.length - (intOf i).toNat)
  case atStart => exact ⟨0, rfl, Nat.zero_le _, own_empty w1 _, (Below.refl _ _).alloc (Nat.le_refl _) _⟩
  case round =>
    obtain ⟨i, rfl, hil, hown, hnx⟩ := hrel
    by_cases h1 : i < l.length
    · have hd1 : decide ((i : Int) < l.length) = true := decide_eq_true (by omega)
      have hs := hnx.size
      go_wp2_with (at_builtin; refine wpList_append_own _ rfl _ _ 24 rfl w1.heap.size 3 i0 (.int .i64 0) 1 8 Tryd.underlying24 HI.out HZ0.out HZ1.out HZ2.out rfl (by decide) _ _ _ rfl (hown.alloc _) ⟨wr.heap.size, 0, none⟩ 1 1 [.int .i64 0] rfl rfl ?c1 ?c2 ?c3 ?c4 ?c5 ?_)
      case c1 => exact cell_one_new _ _ _
      case c2 => intro u hu; simp at hu; subst hu; rfl
      case c3 => unfold maxLen; omega
      case c4 => omega
      case c5 => simp; omega
      intro v' w2 hown' hgrow _
      have hbel : Below w1.heap.size w1 w2 := (hnx.alloc hs _).grown hgrow (by simp; omega) (own_ge hown)
      rw [xsF_succ (fun _ => 0)] at hown'
      clear hgrow hown
      go_wp2
      go_roundw
      case rel => exact ⟨i + 1, by go_num, by omega, hown', hbel⟩
      case measure => simp [intOf]; omega
    · have hd1 : decide ((i : Int) < l.length) = false := decide_eq_false (by omega)
      obtain rfl : i = l.length := by omega
      have hbw := below_up hb1 hnx hb1.size
      have c2 : wr.cell? ⟨b2, off2 + k, none⟩ = some (.int .i64 (lf m k)) := (hbw.cell (p := ⟨b2, off2 + k, none⟩) hlt2).trans (HC2.out k (by omega))
      obtain ⟨gq, capq, rfl, hgq, hvq⟩ := OwnV.of_owns hown (by omega)
      have HVQ := Lib.hid hvq
      have HVR1 := Lib.hid (HVR.out.keep hnx)
      have HSTEP : Hid (∀ (s : Nat) (Q R : Nat → Int), DivAt f (lf l) m (s + k + 1) Q R → DivAt f (lf l) m (s + k) (upd Q s (RS (R (s + k) * mPower f (lf m k) (-1)) (P f))) (dst f m R (RS (R (s + k) * mPower f (lf m k) (-1)) (P f)) s (k + 1))) := Lib.hid fun s Q R h => h.stepK h0 h8 hk HINV.out
      have HMU : Hid (∀ x y w, Calls Tryd.prog 23 #[.int .i64 f, .int .i64 x, .int .i64 y] w fun e w' => e = .returned (.int .i64 (RS (x * y) (P f))) ∧ w = w') := Lib.hid fun x y w => by have := sMul f x y w; rwa [mMul_on h0 h8] at this
      have HSU : Hid (∀ x y w, Calls Tryd.prog 66 #[.int .i64 f, .int .i64 x, .int .i64 y] w fun e w' => e = .returned (.int .i64 (RS (x - y) (P f))) ∧ w = w') := Lib.hid fun x y w => by have := sSub f x y w; rwa [mSub_on h0 h8] at this
      clear hown hvq HVR HINV
      go_wp2_with fail
      refine (sInverse f (lf m k) wr).mono ?_
      rintro e w' ⟨rfl, rfl⟩
      generalize mPower f (lf m k) (-1) = V at *
      go_wp2_with fail
      go_loopw [12, 13, 14] (fun ns _ _ wr => ∃ (nI : Int) (n' : Nat) (Q R : Nat → Int), ns = .int .i64 nI ∧ nI = n' ∧ n' ≤ l.length ∧ Hid (DivAt f (lf l) m n' Q R) ∧ Hid (∀ j, l.length ≤ j → Q j = 0) ∧ OwnV wr gq l.length capq Q ∧ OwnV wr gr l.length capr R ∧ Below w.heap.size w wr) (fun ns _ _ _ => (intOf ns).toNat)
      case atStart => exact ⟨_, l.length, fun _ => 0, lf l, rfl, rfl, Nat.le_refl _, HST, Lib.hid (fun _ _ => rfl), HVQ.out, HVR1.out, hbw⟩
      case round =>
        clear HVQ HVR1 hbw c2 HST
        obtain ⟨nI, n', Q, R, rfl, hnI, hnn, HD, HZ, hoq, hor, hb⟩ := hrel
        by_cases hge : k + 1 ≤ n'
        · obtain ⟨s, rfl⟩ : ∃ s, n' = s + k + 1 := ⟨n' - (k + 1), by omega⟩
          have hdk : decide ((k : Int) + 1 ≤ nI) = true := decide_eq_true (by omega)
          have hsk : s + k < l.length := by omega
          have hsM : s < l.length := by omega
          have cR := hor.cell hsk
          have cQ := hoq.cell hsM
          have fQ := hoq.frozen s
          have e1 : nI - 1 = (s : Int) + k := by omega
          have e2 : nI - ((k : Int) + 1) = (s : Int) := by omega
          have hnI1 : nI ≤ 4096 := by omega
          have hnI2 : (k : Int) + 1 ≤ nI := by omega
          have hskI : (s : Int) + k < l.length := by omega
          have hsI : (s : Int) < l.length := by omega
          have hneq : nI ≤ (s : Int) + k + 1 := by omega
          have hneq2 : (s : Int) + k + 1 ≤ nI := by omega
          have HN := Lib.hid (HSTEP.out s Q R HD.out)
          have HQ' := Lib.hid (OwnV.set (s := s) (x := RS (R (s + k) * V) (P f)) hoq)
          have HR' := Lib.hid (OwnV.other (s := s) (v := .int .i64 (RS (R (s + k) * V) (P f))) hor (show gr ≠ gq by omega))
          have HB' := Lib.hid (hb.setCell (p := ⟨gq, s, none⟩) (show w.heap.size ≤ gq by have := hb1.size; omega) (.int .i64 (RS (R (s + k) * V) (P f))))
          have HZ' : Hid (∀ j, l.length ≤ j → upd Q s (RS (R (s + k) * V) (P f)) j = 0) := Lib.hid (fun j hj => by unfold upd; rw [if_neg (by omega)]; exact HZ.out j hj)
          have HRb := Lib.hid HD.out.2.1
          clear HD HZ hoq hor hnI
          go_wp2_with fail
          refine (HMU.out (R (s + k)) V wr).mono ?_
          rintro e w' ⟨rfl, rfl⟩
          generalize hfac : RS (R (s + k) * V) (P f) = fac at *
          go_wp2_with fail
          obtain ⟨W1, hW1⟩ : ∃ W1, wr.setCell ⟨gq, s, none⟩ (.int .i64 fac) = W1 := ⟨_, rfl⟩
          rw [hW1] at HQ' HR' HB' ⊢
          have HR2 : Hid (OwnV W1 gr l.length capr (dst f m R fac s 0)) := Lib.hid (HR'.out.congr (fun j _ => (dst_zero f m R fac s j).symm))
          clear hW1 HR' cR cQ fQ hb
          go_loopw [14] (fun i W => ∃ j : Nat, i = .int .i64 j ∧ j ≤ k + 1 ∧ OwnV W gr l.length capr (dst f m R fac s j) ∧ OwnV W gq l.length capq (upd Q s fac) ∧ Below w.heap.size w W) (fun i _ => k + 1 - (intOf i).toNat)
          case atStart => exact ⟨0, rfl, Nat.zero_le _, HR2.out, HQ'.out, HB'.out⟩
          case round =>
            clear HR2 HQ' HB'
            obtain ⟨j, rfl, hj, hor, hoq, hb⟩ := hrel
            by_cases hjk : j < k + 1
            · have hdj : decide ((j : Int) < (k : Int) + 1) = true := decide_eq_true (by omega)
              have d2 : wr.cell? ⟨b2, off2 + j, none⟩ = some (.int .i64 (lf m j)) := (hb.cell (p := ⟨b2, off2 + j, none⟩) hlt2).trans (HC2.out j hjk)
              have hsj : s + j < l.length := by omega
              have hor1 : OwnV wr.drew gr l.length capr (dst f m R fac s j) := hor
              have hoq1 : OwnV wr.drew gq l.length capq (upd Q s fac) := hoq
              have hb3 : Below w.heap.size w wr.drew := ⟨hb.os, hb.tape, hb.output, hb.size, hb.block⟩
              have cR := hor.cell hsj
              rw [dst_at] at cR
              have fR := hor1.frozen (s + j)
              have cR1 := hor1.cell hsj
              rw [dst_at] at cR1
              have HS1 : Hid (OwnV (wr.drew.setCell ⟨gr, s + j, none⟩ (.int .i64 (RS (R (s + j) - RS (fac * lf m j) (P f)) (P f)))) gr l.length capr (dst f m R fac s (j + 1))) := Lib.hid ((OwnV.set (s := s + j) hor1).congr (fun x _ => by rw [dst_succ]; rfl))
              have HS2 := Lib.hid (OwnV.other (s := s + j) (v := .int .i64 (RS (R (s + j) - RS (fac * lf m j) (P f)) (P f))) hoq1 (show gq ≠ gr by omega))
              have HS3 := Lib.hid (hb3.setCell (p := ⟨gr, s + j, none⟩) (show w.heap.size ≤ gr by omega) (.int .i64 (RS (R (s + j) - RS (fac * lf m j) (P f)) (P f))))
              have hw0 : IntKind.i64.wrap (nI - ((k : Int) + 1)) = (s : Int) := by rw [e2]; exact IntWalk.i64_in _ (by omega)
              have hw00 : IntKind.i64.wrap (s : Int) = (s : Int) := IntWalk.i64_in _ (by omega)
              have hw : IntKind.i64.wrap ((s : Int) + j) = (s : Int) + j := IntWalk.i64_in _ (by omega)
              have hi1 : (0 : Int) ≤ (s : Int) + j := by omega
              have hi2 : (s : Int) + j < (l.length : Int) := by omega
              have hi3 : ((s : Int) + j).toNat = s + j := by omega
              have hi4 : (j : Int) < (k : Int) + 1 := by omega
              clear hor hoq hor1 hoq1
              go_wp2
              refine wp_region_still_tail 26 (by kernel_rfl) (by kernel_rfl) ?_
              simp only [List.take_succ_cons, List.take_zero, List.drop_succ_cons, List.drop_zero]
              still_step
              still_step
              still_step
              still_step
              still_step
              still_step
              still_step
              still_step
              still_step
              still_step
              still_step
              still_step
              still_step
              still_step
              still_step
              still_step
              still_step
              still_step
              still_step
              still_step
              still_step
              still_step
              still_step
              still_call ((HMU.out fac (lf m j) wr.drew).mono fun _ _ h => ⟨h.1, h.2.symm⟩)
              still_call ((HSU.out (R (s + j)) (RS (fac * lf m j) (P f)) wr.drew).mono fun _ _ h => ⟨h.1, h.2.symm⟩)
              still_step
              refine wpStill_nil ?_
              change wpList _ _ _ _ _ wr.drew
              clear hw hw0 hw00 hi1 hi2 hi3 hi4 cR d2
              generalize wr.drew = W2 at *
              go_wp2
              go_roundw
              case rel => exact ⟨j + 1, by go_num, by omega, HS1.out, HS2.out, HS3.out⟩
              case measure => simp [intOf] <;> omega
            · have hdj : decide ((j : Int) < (k : Int) + 1) = false := decide_eq_false (by omega)
              obtain rfl : j = k + 1 := by omega
              have HOR := Lib.hid hor
              have HOQ := Lib.hid hoq
              clear hor hoq e2
              go_wp2
              go_roundw
              case rel => exact ⟨_, s + k, upd Q s fac, dst f m R fac s (k + 1), rfl, by omega, by omega, HN, HZ', HOQ.out, HOR.out, hb⟩
              case measure => simp [intOf] <;> omega
        · have hdk : decide ((k : Int) + 1 ≤ nI) = false := decide_eq_false (by omega)
          have HCQ := Lib.hid (cut_c (some ⟨gq, 0, none⟩) l.length capq Q wr (by omega) (by obtain ⟨_, _, h, _⟩ := hoq; exact h) hoq.src)
          have hcapr : l.length ≤ capr := by obtain ⟨_, _, h, _⟩ := hor; exact h
          have HSR := Lib.hid hor.src
          have HF : Hid (DivP f l m (cutL l.length Q) (cutL l.length R)) := Lib.hid (HD.out.divP (by omega) (by omega) hnn HZ.out)
          clear hoq hor HD HZ hnI
          go_wp2_with fail
          refine HCQ.out.mono ?_
          rintro e w4 hoq
          obtain ⟨aq, capq2, rfl, hsq, hb4⟩ := hoq.list
          have HSQ := Lib.hid hsq
          have HCR := Lib.hid (cut_c (some ⟨gr, 0, none⟩) l.length capr R w4 (by omega) hcapr (HSR.out.keep hb4))
          clear hoq hsq HCQ
          go_wp2_with fail
          refine HCR.out.mono ?_
          rintro e w5 hor
          obtain ⟨ar, capr2, rfl, hsr, hb5⟩ := hor.list
          have HRES : Hid (Src w5 aq (cutL l.length Q).length (lf (cutL l.length Q)) ∧ Src w5 ar (cutL l.length R).length (lf (cutL l.length R)) ∧ Below w.heap.size w w5) := Lib.hid ⟨HSQ.out.keep hb5, hsr, below_up (below_up hb hb4 hb.size) hb5 (Nat.le_trans hb.size hb4.size)⟩
          clear hor hsr HCR HSQ
          go_wp2
          go_ret2
          exact ⟨aq, capq2, ar, capr2, _, _, rfl, HF.out, HRES.out⟩
theorem ldiv_c (f : Int) (a a2 : Option Addr) (l m : List Int) (cap cap2 : Nat) (w : World) (h0 : 0 ≤ f) (h8 : f ≤ 8) (hn : l.length ≤ 4096) (hn2 : m.length ≤ 4096) (hz : m.length ≠ 0) (hl : Pol f l) (hm : Pol f m) (hs : Src w a l.length (lf l)) (hs2 : Src w a2 m.length (lf m)) :
    Calls Tryd.prog 38 #[.int .i64 f, .slice a l.length cap, .slice a2 m.length cap2] w (DivS f l m w) := by
  obtain ⟨k, hk⟩ : ∃ k, m.length = k + 1 := ⟨m.length - 1, by omega⟩
  rcases hs2 with h | ⟨b2, off2, rfl, hlt2, hc2⟩
  · exact absurd h hz
  · have hk2 : k + 1 ≤ 4096 := by omega
    rw [hk] at hc2
    have e : #[Value.int .i64 f, .slice a l.length cap, .slice (some ⟨b2, off2, none⟩) m.length cap2] = #[Value.int .i64 f, .slice a l.length cap, .slice (some ⟨b2, off2, none⟩) (k + 1) cap2] := by rw [hk]
    rw [e]
    by_cases h : l.length < k + 1
    · exact ldiv_lt f a b2 off2 k l m cap cap2 w h0 h8 hn hk hk2 h hl hm hs hlt2 hc2
    · exact ldiv_ge f a b2 off2 k l m cap cap2 w h0 h8 hn hk hk2 (by omega) hl hm hs hlt2 hc2
end Go.Proofs.YtoohhcfanllhmaaDoor
namespace Go.Proofs.YtoohhcfanllhmaaDoor
open Go.RowKit
def NilB (w : World) (e : Ending) (w' : World) : Prop := e = .returned (.tuple #[.slice none 0 0, .bool false]) ∧ Below w.heap.size w w'
theorem NilB.list {w w' : World} {l : List Int} {b : Bool} {e : Ending} (hl : l = []) (hb : b = false) (h : NilB w e w') : ListLB w l b e w' := by
  subst hl; subst hb
  obtain ⟨rfl, hb⟩ := h
  exact ⟨none, 0, rfl, .inl rfl, hb⟩
theorem NilB.own {w w' : World} {l : List Int} {b : Bool} {e : Ending} (hl : l = []) (hb : b = false) (h : NilB w e w') : OwnLB w l b e w' := by
  subst hl; subst hb
  obtain ⟨rfl, hb⟩ := h
  exact ⟨none, 0, rfl, OwnA.nil rfl, hb⟩
theorem OwnG.finishB {w w' : World} {l : List Int} {g : Nat} (hg : w.heap.size ≤ g) (ho : Own w' g l.length (lf l)) (hb : Below w.heap.size w w') : OwnLB w l true (.returned (.tuple #[.slice (some ⟨g, 0, none⟩) l.length l.length, .bool true])) w' := ⟨_, _, rfl, .inr ⟨g, rfl, rfl, hg, ho⟩, hb⟩
theorem mul_on {f : Int} {l m : List Int} (h : okMul f l m) : mMulPoly0 f l m = mulL f l m ∧ mMulPoly1 f l m = true := by unfold mMulPoly0 mMulPoly1; rw [if_pos h]; exact ⟨rfl, by simp [h]⟩
theorem mul_off {f : Int} {l m : List Int} (h : ¬ okMul f l m) : mMulPoly0 f l m = [] ∧ mMulPoly1 f l m = false := by unfold mMulPoly0 mMulPoly1; rw [if_neg h]; exact ⟨rfl, by simp [h]⟩
set_option maxRecDepth 100000 in
set_option maxHeartbeats 1600000 in
theorem iMulPoly_on (f : Int) (a : Option Addr) (l : List Int) (cap : Nat) (a2 : Option Addr) (m : List Int) (cap2 : Nat) (w : World) (hn : l.length ≤ 1048576) (hn2 : m.length ≤ 1048576) (hs : Src w a l.length (lf l)) (hs2 : Src w a2 m.length (lf m)) (ht : Tab w) (hl : PolOk f l) (hm : PolOk f m) (hlen : l.length + m.length ≤ 401) :
    Calls Tryd.prog 12 #[.int .i64 f, .slice a l.length cap, .slice a2 m.length cap2] w (OwnLB w (mulL f l m) true) := by
  have HS := Lib.hid hs
  have HS2 := Lib.hid hs2
  have BA : Hid (∀ o, Below w.heap.size w (w.alloc o)) := Lib.hid fun o => (Below.refl _ _).alloc (Nat.le_refl _) o
  clear hs hs2
  have HB : Hid ((mPolyOk f l && mPolyOk f m) = true) := Lib.hid (by rw [pok_iff.2 hl, pok_iff.2 hm]; rfl)
  have h0 := hl.1.1
  have h8 := hl.1.2
  have HL := Lib.hid hl
  have HM := Lib.hid hm
  clear hl hm
  have hd : decide ((400 : Int) < (l.length : Int) + m.length - 1) = false := by simp; omega
  have l4 := HL.out.2.1
  have m4 := HM.out.2.1
  go_enter Tryd.func12, Tryd.ntmps12
  go_wp2_with fail
  refine (arePolys_c f w.heap.size a a2 l m cap cap2 _ hn hn2 (HS.out.keep (BA.out _)) (HS2.out.keep (BA.out _)) (ht.below (BA.out _)) (cell_two _ _ _ _).1 (cell_two _ _ _ _).2).mono ?_
  rintro e w' ⟨rfl, rfl⟩
  rw [HB.out]
  go_wp2_with fail
  refine (product_c f a a2 l m cap cap2 _ (ht.below (BA.out _)) h0 h8 (by omega) (by omega) HL.out.2.2 HM.out.2.2 (HS.out.keep (BA.out _)) (HS2.out.keep (BA.out _))).mono ?_
  rintro e w2 ho
  obtain ⟨g, rfl, hg, hO, hB⟩ := ho.up (BA.out _)
  have HO := Lib.hid hO
  clear hO ho
  go_wp2
  go_ret2
  exact OwnG.finishB hg HO.out hB
set_option maxRecDepth 100000 in
set_option maxHeartbeats 1600000 in
theorem sMulPoly_on (f : Int) (a : Option Addr) (l : List Int) (cap : Nat) (a2 : Option Addr) (m : List Int) (cap2 : Nat) (w : World) (hn : l.length ≤ 1048576) (hn2 : m.length ≤ 1048576) (hs : Src w a l.length (lf l)) (hs2 : Src w a2 m.length (lf m)) (hk : okMul f l m) :
    Calls Tryd.prog 19 #[.int .i64 f, .slice a l.length cap, .slice a2 m.length cap2] w (ListLB w (mulL f l m) true) := by
  have R1 := sPolyOk f a l cap w hn hs
  have R2 := sPolyOk f a2 m cap2 w hn2 hs2
  obtain ⟨h1, h2, h3⟩ := hk
  have HM := Lib.hid (lmul_c f a a2 l m cap cap2 w h1.1.1 h1.1.2 (by have := h1.2.1; omega) (by have := h2.2.1; omega) h1.2.2 h2.2.2 hs hs2)
  rw [pok_iff.2 h1] at R1
  rw [pok_iff.2 h2] at R2
  clear h1 h2 hs hs2
  have hd : decide ((400 : Int) < (l.length : Int) + m.length - 1) = false := by simp; omega
  have E : Hid (∀ e w2, OwnsL w (mulL f l m) e w2 → ∃ a3 cap3, e = .returned (.slice a3 (mulL f l m).length cap3) ∧ Src w2 a3 (mulL f l m).length (lf (mulL f l m)) ∧ Below w.heap.size w w2) := Lib.hid fun e w2 h => h.list
  generalize mulL f l m = s at *
  by_cases z1 : 0 < l.length
  · by_cases z2 : 0 < m.length
    · go_enter Tryd.func19, Tryd.ntmps19
      go_wp2_with fail
      refine R1.mono ?_
      rintro e w' ⟨rfl, rfl⟩
      go_wp2_with fail
      refine R2.mono ?_
      rintro e w' ⟨rfl, rfl⟩
      go_wp2_with fail
      refine HM.out.mono ?_
      rintro e w2 ho
      obtain ⟨a3, cap3, rfl, hs3, hb3⟩ := E.out _ _ ho
      have HS3 := Lib.hid hs3
      clear hs3 ho
      go_wp2
      go_ret2
      exact ⟨a3, cap3, rfl, HS3.out, hb3⟩
    · have hz2 : decide ((0 : Int) < m.length) = false := decide_eq_false (by omega)
      go_enter Tryd.func19, Tryd.ntmps19
      go_wp2_with fail
      refine R1.mono ?_
      rintro e w' ⟨rfl, rfl⟩
      go_wp2_with fail
      refine R2.mono ?_
      rintro e w' ⟨rfl, rfl⟩
      go_wp2_with fail
      refine HM.out.mono ?_
      rintro e w2 ho
      obtain ⟨a3, cap3, rfl, hs3, hb3⟩ := E.out _ _ ho
      have HS3 := Lib.hid hs3
      clear hs3 ho
      go_wp2
      go_ret2
      exact ⟨a3, cap3, rfl, HS3.out, hb3⟩
  · have hz1 : decide ((0 : Int) < l.length) = false := decide_eq_false (by omega)
    go_enter Tryd.func19, Tryd.ntmps19
    go_wp2_with fail
    refine R1.mono ?_
    rintro e w' ⟨rfl, rfl⟩
    go_wp2_with fail
    refine R2.mono ?_
    rintro e w' ⟨rfl, rfl⟩
    go_wp2_with fail
    refine HM.out.mono ?_
    rintro e w2 ho
    obtain ⟨a3, cap3, rfl, hs3, hb3⟩ := E.out _ _ ho
    have HS3 := Lib.hid hs3
    clear hs3 ho
    go_wp2
    go_ret2
    exact ⟨a3, cap3, rfl, HS3.out, hb3⟩
set_option maxRecDepth 100000 in
theorem sMulPoly_off (f : Int) (a : Option Addr) (l : List Int) (cap : Nat) (a2 : Option Addr) (m : List Int) (cap2 : Nat) (w : World) (hn : l.length ≤ 1048576) (hn2 : m.length ≤ 1048576) (hs : Src w a l.length (lf l)) (hs2 : Src w a2 m.length (lf m)) (hk : ¬ okMul f l m) :
    Calls Tryd.prog 19 #[.int .i64 f, .slice a l.length cap, .slice a2 m.length cap2] w (NilB w) := by
  have R1 := sPolyOk f a l cap w hn hs
  have R2 := sPolyOk f a2 m cap2 w hn2 hs2
  clear hs hs2
  by_cases h1 : PolOk f l
  · rw [pok_iff.2 h1] at R1
    by_cases h2 : PolOk f m
    · rw [pok_iff.2 h2] at R2
      have hlen : ¬ l.length + m.length ≤ 401 := fun h => hk ⟨h1, h2, h⟩
      have l4 := h1.2.1
      have m4 := h2.2.1
      have z1 : 0 < l.length := by omega
      have z2 : 0 < m.length := by omega
      have hd : decide ((400 : Int) < (l.length : Int) + m.length - 1) = true := by simp; omega
      clear hk h1 h2
      go_enter Tryd.func19, Tryd.ntmps19
      go_wp2_with fail
      refine R1.mono ?_
      rintro e w' ⟨rfl, rfl⟩
      go_wp2_with fail
      refine R2.mono ?_
      rintro e w' ⟨rfl, rfl⟩
      go_wp2
      go_ret2
      exact ⟨rfl, Below.refl _ _⟩
    · rw [pok_not.2 h2] at R2
      clear hk h1 h2
      go_enter Tryd.func19, Tryd.ntmps19
      go_wp2_with fail
      refine R1.mono ?_
      rintro e w' ⟨rfl, rfl⟩
      go_wp2_with fail
      refine R2.mono ?_
      rintro e w' ⟨rfl, rfl⟩
      go_wp2
      go_ret2
      exact ⟨rfl, Below.refl _ _⟩
  · rw [pok_not.2 h1] at R1
    clear hk h1
    go_enter Tryd.func19, Tryd.ntmps19
    go_wp2_with fail
    refine R1.mono ?_
    rintro e w' ⟨rfl, rfl⟩
    go_wp2
    go_ret2
    exact ⟨rfl, Below.refl _ _⟩
theorem sMulPoly (f : Int) (a : Option Addr) (l : List Int) (cap : Nat) (a2 : Option Addr) (m : List Int) (cap2 : Nat) (w : World) (hn : l.length ≤ 1048576) (hn2 : m.length ≤ 1048576) (hs : Src w a l.length (lf l)) (hs2 : Src w a2 m.length (lf m)) :
    Calls Tryd.prog 19 #[.int .i64 f, .slice a l.length cap, .slice a2 m.length cap2] w (ListLB w (mMulPoly0 f l m) (mMulPoly1 f l m)) := by
  by_cases hk : okMul f l m
  · rw [(mul_on hk).1, (mul_on hk).2]
    exact sMulPoly_on f a l cap a2 m cap2 w hn hn2 hs hs2 hk
  · exact (sMulPoly_off f a l cap a2 m cap2 w hn hn2 hs hs2 hk).mono fun _ _ h => h.list (mul_off hk).1 (mul_off hk).2
theorem pow_congr {p x y : Int} (h : x % p = y % p) (k : Nat) : x ^ k % p = y ^ k % p := by
  induction k with
  | zero => rw [Int.pow_zero, Int.pow_zero]
  | succ k ih => rw [Int.pow_succ, Int.pow_succ]; exact emod_mul_congr ih h
theorem power_nat {f : Int} (h0 : 0 ≤ f) (h8 : f ≤ 8) (x : Int) (k : Nat) : mPower f x k = RS (x ^ k) (P f) := by
  have hp := P_bd h0 h8
  unfold mPower
  rw [if_pos ⟨h0, h8⟩]
  by_cases hz : RS x (P f) = 0
  · rw [if_pos hz]
    unfold pow0
    have e0 : x % P f = 0 % P f := by rw [show x % P f = 0 from hz]; simp
    cases k with
    | zero => simp [RS]; exact (Int.emod_eq_of_lt (by omega) (by omega)).symm
    | succ k =>
      rw [if_neg (by omega), if_neg (by omega)]
      unfold RS
      rw [pow_congr e0 (k + 1), Int.pow_succ, Int.mul_zero]; simp
  · rw [if_neg hz]
    have bd := RS_bd (x := x) (m := P f) (by omega)
    have e1 : ((RS x (P f)).toNat : Int) = RS x (P f) := Int.toNat_of_nonneg bd.1
    have e2 : ((P f).toNat : Int) = P f := Int.toNat_of_nonneg (by omega)
    have hx : (RS x (P f)).toNat % (P f).toNat ≠ 0 := by rw [Nat.mod_eq_of_lt (by omega)]; omega
    have hm := (fldf h0 h8).pow_mod k hx
    unfold PW
    have e3 : (RS (k : Int) (P f - 1)).toNat = k % ((P f).toNat - 1) := by
      unfold RS
      rw [show P f - 1 = (((P f).toNat - 1 : Nat) : Int) by omega, ← Int.natCast_emod, Int.toNat_natCast]
    rw [e3, hm, Int.natCast_emod, Int.natCast_pow, e1, e2]
    unfold RS
    exact pow_congr (by simp) k
/-- Horner's sums. -/
def hz (f x : Int) (A : Nat → Int) (n : Nat) : Nat → Int
  | 0 => 0
  | t + 1 => RS (RS (hz f x A n t * x) (P f) + A (n - (t + 1))) (P f)
theorem hz_is (f x : Int) (A : Nat → Int) (n : Nat) : ∀ t, t ≤ n → hz f x A n t % P f = evN x (fun j => A (n - t + j)) t % P f := by
  intro t
  induction t with
  | zero => intro _; rfl
  | succ t ih =>
    intro ht
    rw [evN_succ]
    have e : tl (fun j => A (n - (t + 1) + j)) = fun j => A (n - t + j) := by
      funext j
      show A (n - (t + 1) + (j + 1)) = _
      rw [show n - (t + 1) + (j + 1) = n - t + j by omega]
    rw [e]
    unfold hz RS
    rw [Int.emod_emod_of_dvd _ (Int.dvd_refl _), Int.add_comm]
    refine emod_add_congr rfl ?_
    rw [Int.emod_emod_of_dvd _ (Int.dvd_refl _), Int.mul_comm]
    exact emod_mul_congr rfl (ih (by omega))
theorem hz_bd {f x : Int} (hp : 0 < P f) (A : Nat → Int) (n t : Nat) : 0 ≤ hz f x A n t ∧ hz f x A n t < P f := by
  cases t with
  | zero => exact ⟨Int.le_refl _, hp⟩
  | succ t => exact RS_bd hp
theorem hz_end {f x : Int} (hp : 0 < P f) (l : List Int) : hz f x (lf l) l.length l.length = evL f x l := by
  have h := hz_is f x (lf l) l.length l.length (Nat.le_refl _)
  have b := hz_bd (x := x) hp (lf l) l.length l.length
  rw [Int.emod_eq_of_lt b.1 b.2] at h
  rw [h]
  unfold evL RS
  exact evN_mod _ rfl (fun j => by rw [show l.length - l.length + j = j by omega])
set_option maxRecDepth 100000 in
set_option maxHeartbeats 1600000 in
theorem value_some (f x : Int) (b off n cap : Nat) (A : Nat → Int) (w : World) (ht : Tab w) (h0 : 0 ≤ f) (h8 : f ≤ 8) (hn : n ≤ 4096) (x0 : 0 ≤ x) (x1 : x < P f) (hA : ∀ j, 0 ≤ A j ∧ A j < P f) (hlt : b < w.heap.size) (hc : ∀ j, j < n → w.cell? ⟨b, off + j, none⟩ = some (.int .i64 (A j))) :
    Calls Tryd.prog 48 #[.int .i64 f, .slice (some ⟨b, off, none⟩) n cap, .int .i64 x] w (IntP w (hz f x A n n)) := by
  have HC := Lib.hid hc
  have HA := Lib.hid hA
  clear hc hA
  have hp := P_bd h0 h8
  go_enter Tryd.func48, Tryd.ntmps48
  go_wp2_with fail
  go_loopw [7, 8] (fun s i wr => ∃ t : Nat, i = .int .i64 ((n : Int) - t - 1) ∧ t ≤ n ∧ s = .int .i64 (hz f x A n t) ∧ Below w.heap.size w wr) (fun _ i _ => (intOf i + 1).toNat)
  case atStart => exact ⟨0, vint (by omega), Nat.zero_le _, rfl, Below.refl _ _⟩
  case round =>
    obtain ⟨t, rfl, htn, rfl, hb⟩ := hrel
    by_cases h1 : t < n
    · obtain ⟨k, hk⟩ : ∃ k, n = t + 1 + k := ⟨n - (t + 1), by omega⟩
      have ei : (n : Int) - t - 1 = (k : Int) := by omega
      rw [ei]
      have d1 : wr.cell? ⟨b, off + k, none⟩ = some (.int .i64 (A k)) := (hb.cell (p := ⟨b, off + k, none⟩) hlt).trans (HC.out k (by omega))
      have hkn : (k : Int) < n := by omega
      have HT := Lib.hid (fun q => Tab.keep (w' := wr.drewN q) (ht.below hb) (fun _ => rfl))
      have bs := hz_bd (f := f) (x := x) (by omega) A n t
      have bA := HA.out k
      have bm := RS_bd (x := hz f x A n t * x) (m := P f) (by omega)
      have HE : Hid (RS (RS (hz f x A n t * x) (P f) + A k) (P f) = hz f x A n (t + 1)) := Lib.hid (by rw [hz, show n - (t + 1) = k by omega])
      have HR : Hid ((k : Int) - 1 = (n : Int) - ((t + 1 : Nat) : Int) - 1) := Lib.hid (by omega)
      generalize hz f x A n t = X at *
      clear hk ei
      go_wp2
      go_quiet ((first | (go_at_call 61; exact quiet_left (mul_c f X x _ (HT.out _) h0 h8 bs.1 bs.2 x0 x1)) | (go_at_call 63; exact quiet_left (add_c f (RS (X * x) (P f)) (A k) _ (HT.out _) h0 h8 bm.1 bm.2 bA.1 bA.2))))
      go_wp2
      go_roundw
      case rel => exact ⟨t + 1, vint HR.out, by omega, vint HE.out, below_drewN hb _⟩
      case measure => simp [intOf] <;> omega
    · have hd : decide ((0 : Int) ≤ (n : Int) - t - 1) = false := by simp; omega
      obtain rfl : t = n := by omega
      go_wp2
      go_ret
      exact ⟨rfl, hb⟩
theorem value_none (f x : Int) (a : Option Addr) (cap : Nat) (w : World) : Calls Tryd.prog 48 #[.int .i64 f, .slice a 0 cap, .int .i64 x] w (IntP w 0) := by
  go_enter Tryd.func48, Tryd.ntmps48
  go_wp2_with fail
  refine wp_loop_rounds 1 ?_
  rw [rounds_succ]
  go_wp2
  go_ret
  exact ⟨rfl, Below.refl _ _⟩
theorem value_c (f x : Int) (a : Option Addr) (l : List Int) (cap : Nat) (w : World) (ht : Tab w) (h0 : 0 ≤ f) (h8 : f ≤ 8) (hn : l.length ≤ 4096) (x0 : 0 ≤ x) (x1 : x < P f) (hl : Pol f l) (hs : Src w a l.length (lf l)) :
    Calls Tryd.prog 48 #[.int .i64 f, .slice a l.length cap, .int .i64 x] w (IntP w (evL f x l)) := by
  rw [← hz_end (P_pos h0 h8) l]
  rcases hs with hz0 | ⟨b, off, rfl, hlt, hc⟩
  · rw [hz0]
    exact value_none f x a cap w
  · exact value_some f x b off l.length cap (lf l) w ht h0 h8 hn x0 x1 hl.1 hlt hc
set_option maxRecDepth 100000 in
theorem iEvalPoly (f : Int) (a : Option Addr) (l : List Int) (cap : Nat) (x : Int) (w : World) (hn : l.length ≤ 1048576) (hs : Src w a l.length (lf l)) (ht : Tab w) : Calls Tryd.prog 22 #[.int .i64 f, .slice a l.length cap, .int .i64 x] w (IntP w (mEvalPoly f l x)) := by
  have R1 := iPolyOk f a l cap w hn hs ht
  by_cases hk : PolOk f l
  · rw [pok_iff.2 hk] at R1
    have h0 := hk.1.1
    have h8 := hk.1.2
    have hp := P_bd h0 h8
    have xb := RS_bd (x := x) (m := P f) (by omega)
    have HE : Hid (evL f (RS x (P f)) l = mEvalPoly f l x) := Lib.hid (by unfold mEvalPoly; rw [if_pos hk]; exact evL_arg (by unfold RS; simp) l)
    have HV := Lib.hid (value_c f (RS x (P f)) a l cap w ht h0 h8 (by have := hk.2.1; omega) xb.1 xb.2 hk.2.2 hs)
    rw [← HE.out]
    clear hk hs
    go_enter Tryd.func22, Tryd.ntmps22
    go_wp2_with fail
    refine R1.mono ?_
    rintro e w' ⟨rfl, rfl⟩
    go_wp2_with fail
    refine (reduce_c f x w ht h0 h8).mono ?_
    rintro e w' ⟨rfl, rfl⟩
    go_wp2_with fail
    refine HV.out.mono ?_
    rintro e w2 ⟨rfl, hb⟩
    go_wp2
    go_ret
    exact ⟨rfl, hb⟩
  · rw [pok_not.2 hk] at R1
    rw [show mEvalPoly f l x = -1 by unfold mEvalPoly; rw [if_neg hk]]
    clear hk hs
    go_enter Tryd.func22, Tryd.ntmps22
    go_wp2_with fail
    refine R1.mono ?_
    rintro e w' ⟨rfl, rfl⟩
    go_wp2
    go_ret
    exact ⟨rfl, Below.refl _ _⟩
theorem ev_step {f : Int} (h0 : 0 ≤ f) (h8 : f ≤ 8) (x : Int) (A : Nat → Int) (k : Nat) : mAdd f (RS (evN x A k) (P f)) (mMul f (A k) (mPower f x k)) = RS (evN x A (k + 1)) (P f) := by
  rw [mAdd_on h0 h8, mMul_on h0 h8, power_nat h0 h8]
  have e : evN x A (k + 1) = evN x A k + A k * x ^ k := rfl
  rw [e]
  unfold RS
  refine emod_add_congr (by simp) ?_
  rw [Int.emod_emod_of_dvd _ (Int.dvd_refl _)]
  exact emod_mul_congr rfl (by simp)
set_option maxRecDepth 100000 in
set_option maxHeartbeats 1600000 in
theorem sEvalPoly (f : Int) (a : Option Addr) (l : List Int) (cap : Nat) (x : Int) (w : World) (hn : l.length ≤ 1048576) (hs : Src w a l.length (lf l)) : Calls Tryd.prog 24 #[.int .i64 f, .slice a l.length cap, .int .i64 x] w (IntP w (mEvalPoly f l x)) := by
  have R1 := sPolyOk f a l cap w hn hs
  by_cases hk : PolOk f l
  · rw [pok_iff.2 hk] at R1
    have h0 := hk.1.1
    have h8 := hk.1.2
    have l4 := hk.2.1
    rw [show mEvalPoly f l x = RS (evN x (lf l) l.length) (P f) by unfold mEvalPoly; rw [if_pos hk]; rfl]
    clear hk
    rcases hs with hz0 | ⟨b, off, rfl, hlt, hc⟩
    · rw [hz0] at R1 ⊢
      go_enter Tryd.func24, Tryd.ntmps24
      go_wp2_with fail
      refine R1.mono ?_
      rintro e w' ⟨rfl, rfl⟩
      go_wp2_with fail
      refine wp_loop_rounds 1 ?_
      rw [rounds_succ]
      go_wp2
      go_ret
      exact ⟨by simp [evN, sumN, RS], Below.refl _ _⟩
    · have HC := Lib.hid hc
      clear hc
      generalize lf l = A at *
      generalize l.length = n at *
      go_enter Tryd.func24, Tryd.ntmps24
      go_wp2_with fail
      refine R1.mono ?_
      rintro e w' ⟨rfl, rfl⟩
      go_wp2_with fail
      go_loopw [7, 8] (fun s i wr => ∃ k : Nat, i = .int .i64 k ∧ k ≤ n ∧ s = .int .i64 (RS (evN x A k) (P f)) ∧ Below w.heap.size w wr) (fun _ i _ => n - (intOf i).toNat)
      case atStart => exact ⟨0, rfl, Nat.zero_le _, by simp [evN, sumN, RS], Below.refl _ _⟩
      case round =>
        obtain ⟨k, rfl, hk, rfl, hb⟩ := hrel
        by_cases h1 : k < n
        · have d1 : wr.cell? ⟨b, off + k, none⟩ = some (.int .i64 (A k)) := (hb.cell (p := ⟨b, off + k, none⟩) hlt).trans (HC.out k h1)
          have HE := Lib.hid (ev_step h0 h8 x A k)
          generalize RS (evN x A k) (P f) = X at *
          go_wp2
          go_quiet ((first | (go_at_call 52; exact quiet_left (sPower f x k _)) | (go_at_call 23; exact quiet_left (sMul f (A k) (mPower f x k) _)) | (go_at_call 51; exact quiet_left (sAdd f X (mMul f (A k) (mPower f x k)) _))))
          go_wp2
          go_roundw
          case rel => exact ⟨k + 1, by go_num, by omega, vint HE.out, below_drewN hb _⟩
          case measure => simp [intOf]; omega
        · have hd : decide (k < n) = false := by simpa using h1
          obtain rfl : k = n := by omega
          go_wp2
          go_ret
          exact ⟨rfl, hb⟩
  · rw [pok_not.2 hk] at R1
    rw [show mEvalPoly f l x = -1 by unfold mEvalPoly; rw [if_neg hk]]
    clear hk hs
    go_enter Tryd.func24, Tryd.ntmps24
    go_wp2_with fail
    refine R1.mono ?_
    rintro e w' ⟨rfl, rfl⟩
    go_wp2
    go_ret
    exact ⟨rfl, Below.refl _ _⟩
end Go.Proofs.YtoohhcfanllhmaaDoor
namespace Go.Proofs.YtoohhcfanllhmaaDoor
open Go.RowKit
theorem divm_on {f : Int} {l m q r : List Int} (h : okDiv f l m) (hd : DivP f l m q r) : mDivMod0 f l m = q ∧ mDivMod1 f l m = r ∧ mDivMod2 f l m = true := by
  unfold mDivMod0 mDivMod1 mDivMod2
  rw [if_pos h, if_pos h]
  exact ⟨quoL_eq h.1.1.1 h.1.1.2 h.2.1.2.2 hd, remL_eq h.1.1.1 h.1.1.2 h.2.1.2.2 hd.isRem, by simp [h]⟩
theorem divm_off {f : Int} {l m : List Int} (h : ¬ okDiv f l m) : mDivMod0 f l m = [] ∧ mDivMod1 f l m = [] ∧ mDivMod2 f l m = false := by
  unfold mDivMod0 mDivMod1 mDivMod2
  rw [if_neg h, if_neg h]
  exact ⟨rfl, rfl, by simp [h]⟩
def NilD (w : World) (e : Ending) (w' : World) : Prop := e = .returned (.tuple #[.slice none 0 0, .slice none 0 0, .bool false]) ∧ Below w.heap.size w w'
set_option maxRecDepth 100000 in
set_option maxHeartbeats 1600000 in
theorem iDivMod_on (f : Int) (a : Option Addr) (l : List Int) (cap : Nat) (a2 : Option Addr) (m : List Int) (cap2 : Nat) (w : World) (hn : l.length ≤ 1048576) (hn2 : m.length ≤ 1048576) (hs : Src w a l.length (lf l)) (hs2 : Src w a2 m.length (lf m)) (ht : Tab w) (hl : PolOk f l) (hm : PolOk f m) (hz : m.length ≠ 0) :
    Calls Tryd.prog 10 #[.int .i64 f, .slice a l.length cap, .slice a2 m.length cap2] w (OwnLLB w (mDivMod0 f l m) (mDivMod1 f l m) (mDivMod2 f l m)) := by
  have HS := Lib.hid hs
  have HS2 := Lib.hid hs2
  have BA : Hid (∀ o, Below w.heap.size w (w.alloc o)) := Lib.hid fun o => (Below.refl _ _).alloc (Nat.le_refl _) o
  clear hs hs2
  have HB : Hid ((mPolyOk f l && mPolyOk f m) = true) := Lib.hid (by rw [pok_iff.2 hl, pok_iff.2 hm]; rfl)
  have h0 := hl.1.1
  have h8 := hl.1.2
  have HL := Lib.hid hl
  have HM := Lib.hid hm
  clear hl hm
  have l4 := HL.out.2.1
  have m4 := HM.out.2.1
  have ez : ((m.length : Int) == 0) = false := by simp; intro h; exact hz (by rw [h]; rfl)
  go_enter Tryd.func10, Tryd.ntmps10
  go_wp2_with fail
  refine (arePolys_c f w.heap.size a a2 l m cap cap2 _ hn hn2 (HS.out.keep (BA.out _)) (HS2.out.keep (BA.out _)) (ht.below (BA.out _)) (cell_two _ _ _ _).1 (cell_two _ _ _ _).2).mono ?_
  rintro e w' ⟨rfl, rfl⟩
  rw [HB.out]
  go_wp2_with fail
  refine (divide_c f a a2 l m cap cap2 _ (ht.below (BA.out _)) h0 h8 (by omega) (by omega) hz HL.out.2.2 HM.out.2.2 (HS.out.keep (BA.out _)) (HS2.out.keep (BA.out _))).mono ?_
  rintro e w2 ⟨gq, gr, q, r, rfl, hdiv, h1, h2, h3, h4, hb⟩
  have hb' := below_up (BA.out _) hb (by simp)
  rw [World.size_alloc] at h1
  have HE := Lib.hid (divm_on ⟨HL.out, HM.out, hz⟩ hdiv)
  have HQ := Lib.hid h3
  have HR := Lib.hid h4
  clear h3 h4 hdiv hb
  go_wp2
  go_ret3
  rw [HE.out.1, HE.out.2.1]
  exact ⟨some ⟨gq, 0, none⟩, q.length, some ⟨gr, 0, none⟩, r.length, gr, by rw [HE.out.2.2]; rfl, .inr ⟨gq, rfl, rfl, by omega, HQ.out⟩, (fun x hx => by cases hx; exact h2), by omega, .inr ⟨gr, rfl, rfl, Nat.le_refl _, HR.out⟩, hb'⟩
set_option maxRecDepth 100000 in
theorem iDivMod_off (f : Int) (a : Option Addr) (l : List Int) (cap : Nat) (a2 : Option Addr) (m : List Int) (cap2 : Nat) (w : World) (hn : l.length ≤ 1048576) (hn2 : m.length ≤ 1048576) (hs : Src w a l.length (lf l)) (hs2 : Src w a2 m.length (lf m)) (ht : Tab w) (hk : ¬ okDiv f l m) :
    Calls Tryd.prog 10 #[.int .i64 f, .slice a l.length cap, .slice a2 m.length cap2] w (NilD w) := by
  have HS := Lib.hid hs
  have HS2 := Lib.hid hs2
  have BA : Hid (∀ o, Below w.heap.size w (w.alloc o)) := Lib.hid fun o => (Below.refl _ _).alloc (Nat.le_refl _) o
  clear hs hs2
  by_cases hp : PolOk f l ∧ PolOk f m
  · have HB : Hid ((mPolyOk f l && mPolyOk f m) = true) := Lib.hid (by rw [pok_iff.2 hp.1, pok_iff.2 hp.2]; rfl)
    have hz : m.length = 0 := Decidable.byContradiction fun h => hk ⟨hp.1, hp.2, h⟩
    clear hk hp
    have HM : Hid (m = []) := Lib.hid (List.eq_nil_of_length_eq_zero hz)
    have ez : ((m.length : Int) == 0) = true := by simp [HM.out]
    clear hz
    go_enter Tryd.func10, Tryd.ntmps10
    go_wp2_with fail
    refine (arePolys_c f w.heap.size a a2 l m cap cap2 _ hn hn2 (HS.out.keep (BA.out _)) (HS2.out.keep (BA.out _)) (ht.below (BA.out _)) (cell_two _ _ _ _).1 (cell_two _ _ _ _).2).mono ?_
    rintro e w' ⟨rfl, rfl⟩
    rw [HB.out]
    go_wp2
    go_ret3
    exact ⟨rfl, BA.out _⟩
  · have HB : Hid ((mPolyOk f l && mPolyOk f m) = false) := Lib.hid (by
      by_cases h1 : PolOk f l
      · rw [pok_not.2 fun h => hp ⟨h1, h⟩, Bool.and_false]
      · rw [pok_not.2 h1, Bool.false_and])
    clear hk hp
    go_enter Tryd.func10, Tryd.ntmps10
    go_wp2_with fail
    refine (arePolys_c f w.heap.size a a2 l m cap cap2 _ hn hn2 (HS.out.keep (BA.out _)) (HS2.out.keep (BA.out _)) (ht.below (BA.out _)) (cell_two _ _ _ _).1 (cell_two _ _ _ _).2).mono ?_
    rintro e w' ⟨rfl, rfl⟩
    rw [HB.out]
    go_wp2
    go_ret3
    exact ⟨rfl, BA.out _⟩
theorem iDivMod (f : Int) (a : Option Addr) (l : List Int) (cap : Nat) (a2 : Option Addr) (m : List Int) (cap2 : Nat) (w : World) (hn : l.length ≤ 1048576) (hn2 : m.length ≤ 1048576) (hs : Src w a l.length (lf l)) (hs2 : Src w a2 m.length (lf m)) (ht : Tab w) :
    Calls Tryd.prog 10 #[.int .i64 f, .slice a l.length cap, .slice a2 m.length cap2] w (OwnLLB w (mDivMod0 f l m) (mDivMod1 f l m) (mDivMod2 f l m)) := by
  by_cases hk : okDiv f l m
  · exact iDivMod_on f a l cap a2 m cap2 w hn hn2 hs hs2 ht hk.1 hk.2.1 hk.2.2
  · refine (iDivMod_off f a l cap a2 m cap2 w hn hn2 hs hs2 ht hk).mono fun e w' h => ?_
    obtain ⟨rfl, hb⟩ := h
    rw [(divm_off hk).1, (divm_off hk).2.1, (divm_off hk).2.2]
    exact ⟨none, 0, none, 0, w.heap.size, rfl, OwnA.nil rfl, (fun x hx => by cases hx), Nat.le_refl _, OwnA.nil rfl, hb⟩
def lenOf : Value → Nat
  | .slice _ n _ => n
  | _ => 0
/-- The state of Euclid's loop. -/
def GcdAt (f : Int) (l m : List Int) (N : Nat) (w : World) (va vb : Value) (wr : World) : Prop := ∃ (x y : List Int) (ax ay : Option Addr) (cx cy : Nat), va = .slice ax x.length cx ∧ vb = .slice ay y.length cy ∧ Src wr ax x.length (lf x) ∧ Src wr ay y.length (lf y) ∧ Pol f x ∧ Pol f y ∧ x.length ≤ N ∧ y.length ≤ N ∧ gcdL f x y = gcdL f l m ∧ Below w.heap.size w wr
theorem src_top {w : World} {a : Option Addr} {k : Nat} {F : Nat → Int} (h : Src w a (k + 1) F) : ∃ b off, a = some ⟨b, off, none⟩ ∧ w.cell? ⟨b, off + k, none⟩ = some (.int .i64 (F k)) := by
  rcases h with h | ⟨b, off, rfl, _, hc⟩
  · omega
  · exact ⟨b, off, rfl, hc k (by omega)⟩
set_option maxRecDepth 100000 in
set_option maxHeartbeats 1600000 in
theorem gcd_c (f : Int) (a a2 : Option Addr) (l m : List Int) (cap cap2 : Nat) (w : World) (ht : Tab w) (h0 : 0 ≤ f) (h8 : f ≤ 8) (hn : l.length ≤ 4096) (hn2 : m.length ≤ 4096) (hl : Pol f l) (hm : Pol f m) (hs : Src w a l.length (lf l)) (hs2 : Src w a2 m.length (lf m)) :
    Calls Tryd.prog 35 #[.int .i64 f, .slice a l.length cap, .slice a2 m.length cap2] w (OwnG w (gcdM f l m)) := by
  have hp := P_bd h0 h8
  have HST : Hid (GcdAt f l m 4096 w (.slice a l.length cap) (.slice a2 m.length cap2) w) := Lib.hid ⟨l, m, a, a2, cap, cap2, rfl, rfl, hs, hs2, hl, hm, hn, hn2, rfl, Below.refl _ _⟩
  clear hs hs2 hl hm
  go_enter Tryd.func35, Tryd.ntmps35
  go_wp2_with fail
  go_loopw [1, 2] (fun va vb wr => GcdAt f l m 4096 w va vb wr) (fun _ vb _ => lenOf vb)
  case atStart => exact HST.out
  case round =>
    clear HST
    obtain ⟨x, y, ax, ay, cx, cy, rfl, rfl, hsx, hsy, px, py, lx, ly, hg, hb⟩ := hrel
    by_cases hy : 0 < y.length
    · have hyz : y.length ≠ 0 := by omega
      have HR := Lib.hid (remainder_c f ax ay x y cx cy wr (ht.below hb) h0 h8 lx ly hyz px py hsx hsy)
      have HK : Hid (∀ (w2 : World) (g : Nat), Own w2 g (remL f x y).length (lf (remL f x y)) → Below wr.heap.size wr w2 → GcdAt f l m 4096 w (.slice ay y.length cy) (.slice (some ⟨g, 0, none⟩) (remL f x y).length (remL f x y).length) w2) := Lib.hid fun w2 g ho hb2 => by
        have hrl := remL_len (f := f) (a := x) hyz
        exact ⟨y, remL f x y, ay, _, cy, _, rfl, rfl, hsy.keep hb2, ho.src, py, (remL_is h0 h8 px py hyz).1, ly, by omega, by rw [← gcdL_step f x y hyz]; exact hg, below_up hb hb2 hb.size⟩
      have HL := Lib.hid (remL_len (f := f) (a := x) hyz)
      clear hsx hsy px py hg
      go_wp2_with fail
      refine HR.out.mono ?_
      rintro e w2 ⟨g, rfl, hgg, ho, hb2⟩
      have HG := Lib.hid (HK.out w2 g ho hb2)
      clear ho HK HR
      go_wp2
      go_roundw
      case rel => exact HG.out
      case measure => simp only [lenOf]; exact HL.out
    · have hyz : y.length = 0 := by omega
      have HY : Hid (y = []) := Lib.hid (List.eq_nil_of_length_eq_zero hyz)
      have hd : decide ((0 : Int) < y.length) = false := decide_eq_false (by omega)
      have HX : Hid (gcdM f l m = monL f x) := Lib.hid (by unfold gcdM; rw [← hg, gcdL_nil f x y hyz])
      by_cases hx : x.length = 0
      · have HE : Hid (monL f x = []) := Lib.hid (by unfold monL; rw [if_pos hx])
        have HP := Lib.hid (poly_none none 0 (fun _ => 0) wr)
        clear hsx hsy px py hg
        go_wp2_with fail
        refine HP.out.mono ?_
        rw [show cutL 0 (fun _ => 0) = [] from rfl]
        rintro e w2 ho
        obtain ⟨g, rfl, hgg, hO, hB⟩ := ho.up hb
        have HO := Lib.hid hO
        clear hO ho HP
        go_wp2
        go_ret
        rw [HX.out, HE.out]
        exact ⟨g, rfl, hgg, HO.out, hB⟩
      · obtain ⟨k, hk⟩ : ∃ k, x.length = k + 1 := ⟨x.length - 1, by omega⟩
        have bx := px.1 k
        have bz : lf x k ≠ 0 := by
          rcases px.2 with h | h
          · omega
          · rw [hk] at h; exact h
        have HE : Hid (monL f x = scaleL f x (PW (P f) (lf x k) (P f - 2))) := Lib.hid (by unfold monL; rw [if_neg hx, hk, show k + 1 - 1 = k by omega, inverse_inv h0 h8 (by omega) bx.2])
        have BI := PW_bd (m := P f) (x := lf x k) (e := P f - 2) (by omega)
        have HSC := Lib.hid (scaled_c f (PW (P f) (lf x k) (P f - 2)) ax x cx wr (ht.below hb) h0 h8 (by omega) BI.1 BI.2 px hsx)
        rw [hk] at hsx
        obtain ⟨b, off, rfl, hcell⟩ := src_top hsx
        rw [hk] at HSC ⊢
        have hk4 : k + 1 ≤ 4096 := by omega
        clear hsx hsy px py hg hx bz hk lx
        go_wp2_with fail
        refine (inverse_c f (lf x k) wr (ht.below hb) h0 h8 bx.1 bx.2).mono ?_
        rintro e w' ⟨rfl, rfl⟩
        go_wp2_with fail
        refine HSC.out.mono ?_
        rintro e w2 ho
        obtain ⟨g, rfl, hgg, hO, hB⟩ := ho.up hb
        have HO := Lib.hid hO
        clear hO ho HSC
        go_wp2
        go_ret
        rw [HX.out, HE.out]
        exact ⟨g, rfl, hgg, HO.out, hB⟩
set_option maxRecDepth 100000 in
set_option maxHeartbeats 1600000 in
theorem iGcdPoly_on (f : Int) (a : Option Addr) (l : List Int) (cap : Nat) (a2 : Option Addr) (m : List Int) (cap2 : Nat) (w : World) (hn : l.length ≤ 1048576) (hn2 : m.length ≤ 1048576) (hs : Src w a l.length (lf l)) (hs2 : Src w a2 m.length (lf m)) (ht : Tab w) (hl : PolOk f l) (hm : PolOk f m) :
    Calls Tryd.prog 16 #[.int .i64 f, .slice a l.length cap, .slice a2 m.length cap2] w (OwnL w (gcdM f l m)) := by
  have HS := Lib.hid hs
  have HS2 := Lib.hid hs2
  have BA : Hid (∀ o, Below w.heap.size w (w.alloc o)) := Lib.hid fun o => (Below.refl _ _).alloc (Nat.le_refl _) o
  clear hs hs2
  have HB : Hid ((mPolyOk f l && mPolyOk f m) = true) := Lib.hid (by rw [pok_iff.2 hl, pok_iff.2 hm]; rfl)
  have h0 := hl.1.1
  have h8 := hl.1.2
  have HL := Lib.hid hl
  have HM := Lib.hid hm
  clear hl hm
  have l4 := HL.out.2.1
  have m4 := HM.out.2.1
  go_enter Tryd.func16, Tryd.ntmps16
  go_wp2_with fail
  refine (arePolys_c f w.heap.size a a2 l m cap cap2 _ hn hn2 (HS.out.keep (BA.out _)) (HS2.out.keep (BA.out _)) (ht.below (BA.out _)) (cell_two _ _ _ _).1 (cell_two _ _ _ _).2).mono ?_
  rintro e w' ⟨rfl, rfl⟩
  rw [HB.out]
  go_wp2_with fail
  refine (gcd_c f a a2 l m cap cap2 _ (ht.below (BA.out _)) h0 h8 (by omega) (by omega) HL.out.2.2 HM.out.2.2 (HS.out.keep (BA.out _)) (HS2.out.keep (BA.out _))).mono ?_
  rintro e w2 ho
  obtain ⟨g, rfl, hg, hO, hB⟩ := ho.up (BA.out _)
  have HO := Lib.hid hO
  clear hO ho
  go_wp2
  go_ret
  exact OwnG.finish hg HO.out hB
theorem iGcdPoly_off (f : Int) (a : Option Addr) (l : List Int) (cap : Nat) (a2 : Option Addr) (m : List Int) (cap2 : Nat) (w : World) (hn : l.length ≤ 1048576) (hn2 : m.length ≤ 1048576) (hs : Src w a l.length (lf l)) (hs2 : Src w a2 m.length (lf m)) (ht : Tab w) (hk : ¬ (PolOk f l ∧ PolOk f m)) :
    Calls Tryd.prog 16 #[.int .i64 f, .slice a l.length cap, .slice a2 m.length cap2] w (NilP w) := by
  have HS := Lib.hid hs
  have HS2 := Lib.hid hs2
  have BA : Hid (∀ o, Below w.heap.size w (w.alloc o)) := Lib.hid fun o => (Below.refl _ _).alloc (Nat.le_refl _) o
  clear hs hs2
  have HB : Hid ((mPolyOk f l && mPolyOk f m) = false) := Lib.hid (by
    by_cases h1 : PolOk f l
    · rw [pok_not.2 fun h => hk ⟨h1, h⟩, Bool.and_false]
    · rw [pok_not.2 h1, Bool.false_and])
  clear hk
  go_enter Tryd.func16, Tryd.ntmps16
  go_wp2_with fail
  refine (arePolys_c f w.heap.size a a2 l m cap cap2 _ hn hn2 (HS.out.keep (BA.out _)) (HS2.out.keep (BA.out _)) (ht.below (BA.out _)) (cell_two _ _ _ _).1 (cell_two _ _ _ _).2).mono ?_
  rintro e w' ⟨rfl, rfl⟩
  rw [HB.out]
  go_wp2
  go_ret
  exact ⟨rfl, BA.out _⟩
theorem iGcdPoly (f : Int) (a : Option Addr) (l : List Int) (cap : Nat) (a2 : Option Addr) (m : List Int) (cap2 : Nat) (w : World) (hn : l.length ≤ 1048576) (hn2 : m.length ≤ 1048576) (hs : Src w a l.length (lf l)) (hs2 : Src w a2 m.length (lf m)) (ht : Tab w) :
    Calls Tryd.prog 16 #[.int .i64 f, .slice a l.length cap, .slice a2 m.length cap2] w (OwnL w (mGcdPoly f l m)) := by
  by_cases hk : PolOk f l ∧ PolOk f m
  · rw [show mGcdPoly f l m = gcdM f l m by unfold mGcdPoly; rw [if_pos hk]]
    exact iGcdPoly_on f a l cap a2 m cap2 w hn hn2 hs hs2 ht hk.1 hk.2
  · exact (iGcdPoly_off f a l cap a2 m cap2 w hn hn2 hs hs2 ht hk).mono fun _ _ h => h.own (by unfold mGcdPoly; rw [if_neg hk])
set_option maxRecDepth 100000 in
set_option maxHeartbeats 1600000 in
theorem sGcd_on (f : Int) (a : Option Addr) (l : List Int) (cap : Nat) (a2 : Option Addr) (m : List Int) (cap2 : Nat) (w : World) (hn : l.length ≤ 1048576) (hn2 : m.length ≤ 1048576) (hs : Src w a l.length (lf l)) (hs2 : Src w a2 m.length (lf m)) (h1 : PolOk f l) (h2 : PolOk f m) :
    Calls Tryd.prog 20 #[.int .i64 f, .slice a l.length cap, .slice a2 m.length cap2] w (ListL w (gcdM f l m)) := by
  have R1 := sPolyOk f a l cap w hn hs
  have R2 := sPolyOk f a2 m cap2 w hn2 hs2
  rw [pok_iff.2 h1] at R1
  rw [pok_iff.2 h2] at R2
  obtain ⟨⟨h0, h8⟩, l4, pl⟩ := h1
  obtain ⟨_, m4, pm⟩ := h2
  have hp := P_bd h0 h8
  have HC1 := Lib.hid (copy_c a l.length cap (lf l) w (by omega) hs)
  have HS2 := Lib.hid hs2
  clear hs hs2
  go_enter Tryd.func20, Tryd.ntmps20
  go_wp2_with fail
  refine R1.mono ?_
  rintro e w' ⟨rfl, rfl⟩
  go_wp2_with fail
  refine R2.mono ?_
  rintro e w' ⟨rfl, rfl⟩
  go_wp2_with fail
  refine HC1.out.mono ?_
  rintro e w1 ⟨v1, rfl, ho1, hb1⟩
  obtain ⟨a3, cap3, rfl, _, hs3⟩ := src_of_owns2 ho1
  have HS3 := Lib.hid hs3
  have HC2 := Lib.hid (copy_c a2 m.length cap2 (lf m) w1 (by omega) (HS2.out.keep hb1))
  clear ho1 hs3 HC1 HS2 R1 R2
  go_wp2_with fail
  refine HC2.out.mono ?_
  rintro e w2 ⟨v2, rfl, ho2, hb2⟩
  obtain ⟨a4, cap4, rfl, _, hs4⟩ := src_of_owns2 ho2
  have HST : Hid (GcdAt f l m 400 w (.slice a3 l.length cap3) (.slice a4 m.length cap4) w2) := Lib.hid ⟨l, m, a3, a4, cap3, cap4, rfl, rfl, HS3.out.keep hb2, hs4, pl, pm, l4, m4, rfl, below_up hb1 hb2 hb1.size⟩
  clear ho2 hs4 HC2 HS3 pl pm hb1 hb2
  go_wp2_with fail
  go_loopw [7, 8, 9, 10] (fun va vb _ _ wr => GcdAt f l m 400 w va vb wr) (fun _ vb _ _ _ => lenOf vb)
  case atStart => exact HST.out
  case round =>
    clear HST
    obtain ⟨x, y, ax, ay, cx, cy, rfl, rfl, hsx, hsy, px, py, lx, ly, hg, hb⟩ := hrel
    by_cases hy : 0 < y.length
    · have hyz : y.length ≠ 0 := by omega
      have HR := Lib.hid (ldiv_c f ax ay x y cx cy wr h0 h8 (by omega) (by omega) hyz px py hsx hsy)
      have HK : Hid (∀ (w3 : World) (q r : List Int) (ar : Option Addr) (cr : Nat), DivP f x y q r → Src w3 ar r.length (lf r) → Below wr.heap.size wr w3 → GcdAt f l m 400 w (.slice ay y.length cy) (.slice ar r.length cr) w3 ∧ r.length < y.length) := Lib.hid fun w3 q r ar cr hd hsr hb3 => by
        have e := remL_eq h0 h8 py hd.isRem
        have hlr := hd.2.2.1
        exact ⟨⟨y, r, ay, ar, cy, cr, rfl, rfl, hsy.keep hb3, hsr, py, hd.2.1, ly, by omega, by rw [← e, ← gcdL_step f x y hyz]; exact hg, below_up hb hb3 hb.size⟩, hlr⟩
      clear hsx hsy px py hg
      go_wp2_with fail
      refine HR.out.mono ?_
      rintro e w3 ⟨aq, capq, ar, capr, q, r, rfl, hdiv, hsq, hsr, hb3⟩
      have HG := Lib.hid (HK.out w3 q r ar capr hdiv hsr hb3)
      clear hsq hsr hdiv HK HR
      go_wp2
      go_roundw
      case rel => exact HG.out.1
      case measure => simp only [lenOf]; exact HG.out.2
    · have hyz : y.length = 0 := by omega
      have hd : decide ((0 : Int) < y.length) = false := decide_eq_false (by omega)
      have HX : Hid (gcdM f l m = monL f x) := Lib.hid (by unfold gcdM; rw [← hg, gcdL_nil f x y hyz])
      by_cases hx : x.length = 0
      · have HE : Hid (monL f x = []) := Lib.hid (by unfold monL; rw [if_pos hx])
        clear hsx hsy px py hg
        go_wp2
        go_ret
        rw [HX.out, HE.out]
        exact ⟨none, 0, rfl, .inl rfl, hb⟩
      · obtain ⟨k, hk⟩ : ∃ k, x.length = k + 1 := ⟨x.length - 1, by omega⟩
        have bx := px.1 k
        have bz : lf x k ≠ 0 := by
          rcases px.2 with h | h
          · omega
          · rw [hk] at h; exact h
        have HE : Hid (monL f x = scaleL f x (mPower f (lf x k) (-1))) := Lib.hid (by
          unfold monL
          rw [if_neg hx, hk, show k + 1 - 1 = k by omega]
          unfold invF
          rw [if_neg (by rw [RS_self bx.1 bx.2]; exact bz)])
        have HSC := Lib.hid (sScale_on f (mPower f (lf x k) (-1)) ax x cx wr (by omega) hsx ⟨⟨h0, h8⟩, lx, px⟩)
        rw [hk] at hsx
        obtain ⟨b, off, rfl, hcell⟩ := src_top hsx
        rw [hk] at HSC ⊢
        have hk4 : k + 1 ≤ 400 := by omega
        clear hsx hsy px py hg hx bz hk lx
        go_wp2_with fail
        refine (sInverse f (lf x k) wr).mono ?_
        rintro e w' ⟨rfl, rfl⟩
        go_wp2_with fail
        refine HSC.out.mono ?_
        rintro e w3 ho
        obtain ⟨a5, cap5, rfl, hs5, hb5⟩ := ho.list
        have HS5 := Lib.hid hs5
        have HB5 := Lib.hid (below_up hb hb5 hb.size)
        clear ho hs5 HSC
        go_wp2
        go_ret
        rw [HX.out, HE.out]
        exact ⟨a5, cap5, rfl, HS5.out, HB5.out⟩
theorem sGcdPoly (f : Int) (a : Option Addr) (l : List Int) (cap : Nat) (a2 : Option Addr) (m : List Int) (cap2 : Nat) (w : World) (hn : l.length ≤ 1048576) (hn2 : m.length ≤ 1048576) (hs : Src w a l.length (lf l)) (hs2 : Src w a2 m.length (lf m)) :
    Calls Tryd.prog 20 #[.int .i64 f, .slice a l.length cap, .slice a2 m.length cap2] w (ListL w (mGcdPoly f l m)) := by
  by_cases h1 : PolOk f l
  · by_cases h2 : PolOk f m
    · rw [show mGcdPoly f l m = gcdM f l m by unfold mGcdPoly; rw [if_pos ⟨h1, h2⟩]]
      exact sGcd_on f a l cap a2 m cap2 w hn hn2 hs hs2 h1 h2
    · have R1 := sPolyOk f a l cap w hn hs
      have R2 := sPolyOk f a2 m cap2 w hn2 hs2
      rw [pok_iff.2 h1] at R1
      rw [pok_not.2 h2] at R2
      rw [show mGcdPoly f l m = [] by unfold mGcdPoly; rw [if_neg fun h => h2 h.2]]
      clear hs hs2 h1 h2
      go_enter Tryd.func20, Tryd.ntmps20
      go_wp2_with fail
      refine R1.mono ?_
      rintro e w' ⟨rfl, rfl⟩
      go_wp2_with fail
      refine R2.mono ?_
      rintro e w' ⟨rfl, rfl⟩
      go_wp2
      go_ret
      exact ⟨none, 0, rfl, .inl rfl, Below.refl _ _⟩
  · have R1 := sPolyOk f a l cap w hn hs
    rw [pok_not.2 h1] at R1
    rw [show mGcdPoly f l m = [] by unfold mGcdPoly; rw [if_neg fun h => h1 h.1]]
    clear hs hs2 h1
    go_enter Tryd.func20, Tryd.ntmps20
    go_wp2_with fail
    refine R1.mono ?_
    rintro e w' ⟨rfl, rfl⟩
    go_wp2
    go_ret
    exact ⟨none, 0, rfl, .inl rfl, Below.refl _ _⟩
end Go.Proofs.YtoohhcfanllhmaaDoor
namespace Go.Proofs.YtoohhcfanllhmaaDoor
open Go.RowKit
set_option maxHeartbeats 800000 in
theorem sameZ_some (b off b2 off2 n cap cap2 : Nat) (F : Nat → Int) (w : World) (hn : n ≤ 1048576) (hlt : b < w.heap.size) (hlt2 : b2 < w.heap.size) (hc : ∀ j, j < n → w.cell? ⟨b, off + j, none⟩ = some (.int .i64 (F j))) (hc2 : ∀ j, j < n → w.cell? ⟨b2, off2 + j, none⟩ = some (.int .i64 (F j))) :
    Calls Tryd.prog 13 #[.slice (some ⟨b, off, none⟩) n cap, .slice (some ⟨b2, off2, none⟩) n cap2] w (TrueP w) := by
  have HC := Lib.hid hc
  have HC2 := Lib.hid hc2
  clear hc hc2
  go_enter Tryd.func13, Tryd.ntmps13
  go_wp2_with fail
  go_loopw [5] (fun i wr => ∃ k : Nat, i = .int .i64 k ∧ k ≤ n ∧ Below w.heap.size w wr) (fun i _ => n - (intOf i).toNat)
  case atStart => exact ⟨0, rfl, Nat.zero_le _, Below.refl _ _⟩
  case round =>
    obtain ⟨k, rfl, hk, hb⟩ := hrel
    by_cases h1 : k < n
    · have c1 : wr.cell? ⟨b, off + k, none⟩ = some (.int .i64 (F k)) := (hb.cell (p := ⟨b, off + k, none⟩) hlt).trans (HC.out k h1)
      have c2 : wr.cell? ⟨b2, off2 + k, none⟩ = some (.int .i64 (F k)) := (hb.cell (p := ⟨b2, off2 + k, none⟩) hlt2).trans (HC2.out k h1)
      go_wp2
      go_quiet (fail)
      go_wp2
      go_roundw
      case rel => exact ⟨k + 1, by go_num, by omega, below_drewN hb _⟩
      case measure => simp [intOf]; omega
    · have hd : decide (k < n) = false := by simpa using h1
      go_wp2
      go_ret
      exact ⟨rfl, hb⟩
theorem sameZ_none (a a2 : Option Addr) (cap cap2 : Nat) (w : World) : Calls Tryd.prog 13 #[.slice a 0 cap, .slice a2 0 cap2] w (TrueP w) := by
  go_enter Tryd.func13, Tryd.ntmps13
  go_wp2
  refine wp_loop_rounds 1 ?_
  rw [rounds_succ]
  go_wp2
  go_ret
  exact ⟨rfl, Below.refl _ _⟩
theorem sameZ (a a2 : Option Addr) (l : List Int) (cap cap2 : Nat) (w : World) (hn : l.length ≤ 1048576) (hs : Src w a l.length (lf l)) (hs2 : Src w a2 l.length (lf l)) : Calls Tryd.prog 13 #[.slice a l.length cap, .slice a2 l.length cap2] w (TrueP w) := by
  rcases hs with h | ⟨b, off, rfl, hlt, hc⟩
  · rw [h]; exact sameZ_none a a2 cap cap2 w
  · rcases hs2 with h | ⟨b2, off2, rfl, hlt2, hc2⟩
    · rw [h]; exact sameZ_none _ a2 cap cap2 w
    · exact sameZ_some b off b2 off2 l.length cap cap2 (lf l) w hn hlt hlt2 hc hc2
def SizeM (m : Int) (w : World) (e : Ending) (w' : World) : Prop := ∃ r : Int, e = .returned (.int .i64 r) ∧ 1 ≤ r ∧ r ≤ m ∧ w = w'
theorem sizeM_c (a : Option Addr) (len cap : Nat) (m : Int) (w : World) (hl : len ≤ 1048576) (m0 : 1 ≤ m) (m1 : m ≤ 1000) : Calls Tryd.prog 46 #[.slice a len cap, .int .i64 m] w (SizeM m w) := by
  by_cases h : m < 2 + (len : Int) / 16
  · go_enter Tryd.func46, Tryd.ntmps46
    go_wp2
    go_ret
    exact ⟨m, rfl, by omega, by omega, rfl⟩
  · go_enter Tryd.func46, Tryd.ntmps46
    go_wp2
    go_ret
    exact ⟨_, rfl, by omega, by omega, rfl⟩
/-- The state of the loop that draws a list: the cursor's block is g. -/
def ZAt (g : Nat) (w wr : World) (v : Value) (k : Nat) : Prop := (∃ F, wr.ownsRow w.heap.size 3 1 v k (xsF F k)) ∧ Cur g wr ∧ w.grownBy wr (some g) ∧ w.heap.size ≤ wr.heap.size
theorem zxs_more (F : Nat → Int) (k : Nat) (x : Int) : xsF F k ++ [.int .i64 x] = xsF (fun j => if j < k then F j else x) (k + 1) := by
  rw [← xsF_succ, xsF_congr (F := F) (G := fun j => if j < k then F j else x) (fun j hj => by simp [hj])]
  simp
theorem zown_ne {wr : World} {B g : Nat} {v : Value} {k : Nat} {xs : List Value} (hB : g < B) (h : wr.ownsRow B 3 1 v k xs) : v.ownBlock = none ∨ v.ownBlock ≠ some g := by
  refine .inr fun e => ?_
  have := own_ge h g e
  omega
/-- Growth that writes only into a block made since is growth that writes only into g. -/
theorem grown_new {w w1 w2 : World} {g : Nat} {row : Option Nat} (h1 : w.grownBy w1 (some g)) (h2 : w1.grownBy w2 row) (hr : ∀ k, row = some k → w.heap.size ≤ k) : w.grownBy w2 (some g) :=
  ⟨h2.os.trans h1.os, h2.tape.trans h1.tape, h2.output.trans h1.output, Nat.le_trans h1.size h2.size, fun i hi hne => (h2.block i (Nat.lt_of_lt_of_le hi h1.size) (fun e => by have := hr i e.symm; omega)).trans (h1.block i hi hne)⟩
theorem zdraw_step {g : Nat} {w w1 w2 : World} {v v' : Value} {k : Nat} {x : Int} {F : Nat → Int} {o : Obj} (hB : g < w.heap.size) (g1 : w.grownBy w1 (some g)) (c1 : Cur g w1) (hown1 : w1.ownsRow w.heap.size 3 1 v k (xsF F k))
    (hown' : w2.ownsRow w.heap.size 3 1 v' (k + 1) (xsF F k ++ [.int .i64 x])) (hgrow : (w1.alloc o).grownBy w2 v.ownBlock) : ZAt g w w2 v' (k + 1) := by
  have hge := own_ge hown1
  have hg := grown_new (g1.trans (World.grownBy_alloc w1 o (some g))) hgrow hge
  exact ⟨⟨_, by rw [zxs_more] at hown'; exact hown'⟩, (c1.alloc o).other hgrow (fun r hr => by have := hge r hr; omega), hg, hg.size⟩
def ZRow (g : Nat) (w : World) (n : Nat) (e : Ending) (w' : World) : Prop := ∃ v, e = .returned v ∧ ZAt g w w' v n
set_option maxRecDepth 100000 in
set_option maxHeartbeats 1600000 in
theorem drawList_c (g : Nat) (f : Int) (n : Nat) (w : World) (hc : Cur g w) (hn : n ≤ 4096) : Calls Tryd.prog 67 #[.pointer (some ⟨g, 0, none⟩), .int .i64 f, .int .i64 n] w (ZRow g w n) := by
  obtain ⟨i0, hi, hz0, hz1, hz2⟩ := info_parts info3
  have HI := Lib.hid hi
  have HZ0 := Lib.hid hz0
  have HZ1 := Lib.hid hz1
  have HZ2 := Lib.hid hz2
  clear hi hz0 hz1 hz2
  have hB : g < w.heap.size := hc.lt
  go_enter Tryd.func67, Tryd.ntmps67
  go_wp2_with fail
  go_loopw [7, 8] (fun v i wr => ∃ k : Nat, i = .int .i64 k ∧ k ≤ n ∧ ZAt g w wr v k) (fun _ i _ => n - (intOf i).toNat)
  case atStart => exact ⟨0, rfl, by omega, ⟨fun _ => 0, own_empty w (fun _ => 0)⟩, hc.alloc _, World.grownBy_alloc _ _ _, by simp⟩
  case round =>
    obtain ⟨k, rfl, hk, ⟨F, hown⟩, hcur, hbel, hsz⟩ := hrel
    by_cases hlt : k < n
    · have hd : decide ((k : Int) < n) = true := decide_eq_true (by omega)
      go_wp2_with fail
      refine (element_c g f wr hcur).mono ?_
      rintro e w9 ⟨x9, _, rfl, g9, c9⟩
      have hown9 := hown.kept g9 (zown_ne hB hown)
      have hb9 := hbel.trans g9
      have hs9 : w.heap.size ≤ w9.heap.size := Nat.le_trans hsz g9.size
      clear hown hcur hbel g9
      go_wp2_with (at_builtin; refine wpList_append_own _ rfl _ _ 24 rfl w.heap.size 3 i0 (.int .i64 0) 1 8 Tryd.underlying24 HI.out HZ0.out HZ1.out HZ2.out rfl (by decide) _ _ _ rfl (hown9.alloc _) ⟨w9.heap.size, 0, none⟩ 1 1 [.int .i64 x9] rfl rfl ?c1 ?c2 ?c3 ?c4 ?c5 ?_)
      case c1 => exact cell_one_new _ _ _
      case c2 => intro u hu; simp at hu; subst hu; rfl
      case c3 => unfold maxLen; omega
      case c4 => omega
      case c5 => simp; omega
      intro v' w10 hown' hgrow _
      have hst := zdraw_step hB hb9 c9 hown9 hown' hgrow
      clear hgrow hown' hown9 c9 hb9
      go_wp2
      go_roundw
      case rel => exact ⟨k + 1, by go_num, by omega, hst⟩
      case measure => simp [intOf]; omega
    · have hd : decide ((k : Int) < n) = false := decide_eq_false (by omega)
      obtain rfl : k = n := by omega
      go_wp2
      go_ret
      exact ⟨_, rfl, ⟨F, hown⟩, hcur, hbel, hsz⟩
/-- A list apart from the cursor. -/
def SrcO (g : Nat) (w : World) (a : Option Addr) (n : Nat) (F : Nat → Int) : Prop :=
  n = 0 ∨ ∃ b off, a = some ⟨b, off, none⟩ ∧ b ≠ g ∧ b < w.heap.size ∧ ∀ j, j < n → w.cell? ⟨b, off + j, none⟩ = some (.int .i64 (F j))
theorem SrcO.src {g : Nat} {w : World} {a : Option Addr} {n : Nat} {F : Nat → Int} (h : SrcO g w a n F) : Src w a n F := by
  refine h.imp id ?_
  rintro ⟨b, off, e, _, hlt, hc⟩
  exact ⟨b, off, e, hlt, hc⟩
theorem SrcO.grown {g : Nat} {w w' : World} {a : Option Addr} {n : Nat} {F : Nat → Int} (h : SrcO g w a n F) (hg : w.grownBy w' (some g)) : SrcO g w' a n F := by
  refine h.imp id ?_
  rintro ⟨b, off, e, hne, hlt, hc⟩
  exact ⟨b, off, e, hne, Nat.lt_of_lt_of_le hlt hg.size, fun j hj => hg.cell (hc j hj) (fun e => by injection e with e; exact hne e)⟩
theorem SrcO.of {B g : Nat} {w : World} {v : Value} {n : Nat} {F : Nat → Int} (h : w.ownsRow B 3 1 v n (xsF F n)) (hB : g < B) : ∃ a cap, v = .slice a n cap ∧ n ≤ cap ∧ SrcO g w a n F := by
  by_cases hn : n = 0
  · obtain ⟨a, cap, hv, hc, _⟩ := src_of_owns2 h
    exact ⟨a, cap, hv, hc, .inl hn⟩
  · obtain ⟨g2, cap, hv, hg, ho⟩ := OwnV.of_owns h hn
    have hcap : n ≤ cap := by obtain ⟨_, _, h, _⟩ := ho; exact h
    exact ⟨_, cap, hv, hcap, .inr ⟨g2, 0, rfl, by omega, ho.lt, fun j hj => by rw [Nat.zero_add]; exact ho.cell hj⟩⟩
theorem grown_of_below {w w' : World} (g : Nat) (hb : Below w.heap.size w w') : w.grownBy w' (some g) :=
  ⟨hb.os, hb.tape, hb.output, hb.size, fun i hi _ => hb.block i hi⟩
theorem Cur.below {g : Nat} {w w' : World} (h : Cur g w) (hb : Below w.heap.size w w') : Cur g w' :=
  h.other (row := none) ⟨hb.os, hb.tape, hb.output, hb.size, fun i hi _ => hb.block i hi⟩ (fun _ h => by cases h)
/-- The drawn list, in a row of the draw's own. -/
def ZPol (g : Nat) (w : World) (n : Nat) (e : Ending) (w' : World) : Prop := ∃ (l : List Int) (a : Option Addr) (cap : Nat), e = .returned (.slice a l.length cap) ∧ l.length ≤ n ∧ l.length ≤ cap ∧ SrcO g w' a l.length (lf l) ∧ Cur g w' ∧ w.grownBy w' (some g)
theorem ZPol.of {g : Nat} {w w' : World} {v : Value} {n : Nat} {l : List Int} (h : w'.ownsRow w.heap.size 3 1 v l.length (xsF (lf l) l.length)) (hB : g < w.heap.size) (hl : l.length ≤ n) (hc : Cur g w') (hg : w.grownBy w' (some g)) : ZPol g w n (.returned v) w' := by
  obtain ⟨a, cap, rfl, hcap, hs⟩ := SrcO.of h hB
  exact ⟨l, a, cap, rfl, hl, hcap, hs, hc, hg⟩
theorem lf_tabF (n : Nat) (F : Nat → Int) : xsF (lf (tab n F)) n = xsF F n := xsF_congr fun j hj => by rw [lf_tab, if_pos hj]
/-- The row, its last number written anew. -/
theorem owns_to_tab {w : World} {B n : Nat} {v : Value} {F : Nat → Int} (h : w.ownsRow B 3 1 v n (xsF F n)) : w.ownsRow B 3 1 v (tab n F).length (xsF (lf (tab n F)) (tab n F).length) := by
  rw [tab_len, lf_tabF]
  exact h
end Go.Proofs.YtoohhcfanllhmaaDoor
namespace Go.Proofs.YtoohhcfanllhmaaDoor
open Go.RowKit
theorem OwnV.grown {g : Nat} {w w' : World} {g2 n cap : Nat} {F : Nat → Int} (h : OwnV w g2 n cap F) (hg : w.grownBy w' (some g)) (hne : g2 ≠ g) : OwnV w' g2 n cap F := by
  obtain ⟨V, h1, h2, h3⟩ := h
  have hlt := OwnV.lt ⟨V, h1, h2, h3⟩
  exact ⟨V, World.rowIs.of_block h1 (hg.block g2 hlt (fun e => by injection e with e; exact hne e)), h2, h3⟩
/-- A drawn list, whose row may still be written. -/
def ZVal (g : Nat) (w : World) (n : Nat) (v : Value) (w' : World) : Prop := ∃ l : List Int, l.length ≤ n ∧ (∃ B, g < B ∧ w.heap.size ≤ B ∧ w'.ownsRow B 3 1 v l.length (xsF (lf l) l.length)) ∧ Cur g w' ∧ w.grownBy w' (some g)
theorem ZVal.of {g : Nat} {w w' : World} {n : Nat} {v : Value} (hB : g < w.heap.size) (h : ZAt g w w' v n) : ZVal g w n v w' := by
  obtain ⟨⟨F, ho⟩, hc, hg, hs⟩ := h
  exact ⟨tab n F, by rw [tab_len]; exact Nat.le_refl _, ⟨w.heap.size, hB, Nat.le_refl _, owns_to_tab ho⟩, hc, hg⟩
theorem ZVal.grown {g : Nat} {w w1 w2 : World} {n : Nat} {v : Value} (h : ZVal g w n v w1) (hg : w1.grownBy w2 (some g)) (hc : Cur g w2) : ZVal g w n v w2 := by
  obtain ⟨l, hl, ⟨B, hB, hB2, ho⟩, _, hg1⟩ := h
  exact ⟨l, hl, ⟨B, hB, hB2, ho.kept hg (zown_ne hB ho)⟩, hc, hg1.trans hg⟩
theorem ZVal.cut {g : Nat} {w w1 : World} {n : Nat} {v : Value} (h : ZVal g w n v w1) (hn : n ≤ 4096) : Calls Tryd.prog 54 #[v] w1 fun e w2 => ∃ v2, e = .returned v2 ∧ ZVal g w n v2 w2 := by
  obtain ⟨l, hl, ⟨B, hB, hB2, ho⟩, hc, hg⟩ := h
  refine (cut_own (by omega) ho).mono ?_
  rintro e w2 ⟨v2, rfl, ho2, hb⟩
  have hle := cutL_le l.length (lf l)
  exact ⟨v2, rfl, cutL l.length (lf l), by omega, ⟨w1.heap.size, by have := hc.lt; omega, hg.size, ho2⟩, hc.below hb, hg.trans (grown_of_below g hb)⟩
theorem ZVal.pol {g : Nat} {w w1 : World} {n : Nat} {v : Value} (h : ZVal g w n v w1) : ZPol g w n (.returned v) w1 := by
  obtain ⟨l, hl, ⟨B, hB, hB2, ho⟩, hc, hg⟩ := h
  obtain ⟨a, cap, rfl, hcap, hs⟩ := SrcO.of ho hB
  exact ⟨l, a, cap, rfl, hl, hcap, hs, hc, hg⟩
/-- The value is a slice: empty, or a row that can be written. -/
theorem ZVal.cases {g : Nat} {w w1 : World} {n : Nat} {v : Value} (h : ZVal g w n v w1) : ∃ (l : List Int) (a : Option Addr) (cap : Nat), v = .slice a l.length cap ∧ l.length ≤ n ∧ (l.length = 0 ∨ ∃ g2, a = some ⟨g2, 0, none⟩ ∧ g2 ≠ g ∧ w.heap.size ≤ g2 ∧ OwnV w1 g2 l.length cap (lf l)) := by
  obtain ⟨l, hl, ⟨B, hB, hB2, ho⟩, hc, hg⟩ := h
  by_cases hz : l.length = 0
  · obtain ⟨a, cap, rfl, hcap, hs⟩ := SrcO.of ho hB
    exact ⟨l, a, cap, rfl, hl, .inl hz⟩
  · obtain ⟨g2, cap, rfl, hg2, ho2⟩ := OwnV.of_owns ho hz
    exact ⟨l, _, cap, rfl, hl, .inr ⟨g2, rfl, by omega, by omega, ho2⟩⟩
/-- After the last number has been written anew. -/
theorem zpol_set {g : Nat} {w w1 w2 : World} {n k g2 cap : Nat} {l : List Int} {y : Int} (_hl : l.length = k + 1) (hn : k + 1 ≤ n) (hne : g2 ≠ g) (h2 : w.heap.size ≤ g2) (ho : OwnV w1 g2 (k + 1) cap (lf l)) (hg : w.grownBy w1 (some g)) (g3 : w1.grownBy w2 (some g)) (hc : Cur g w2) (hgl : g < w.heap.size) :
    ZPol g w n (.returned (.slice (some ⟨g2, 0, none⟩) (k + 1) cap)) (w2.setCell ⟨g2, k, none⟩ (.int .i64 y)) := by
  have ho2 := ho.grown g3 hne
  have ho3 := OwnV.set (s := k) (x := y) ho2
  have hcap : k + 1 ≤ cap := by obtain ⟨_, _, h, _⟩ := ho; exact h
  have hg3 : w.grownBy w2 (some g) := hg.trans g3
  have hset : w2.grownBy (w2.setCell ⟨g2, k, none⟩ (.int .i64 y)) (some g2) := grown_set (World.grownBy.refl _ _) _ _
  refine ⟨tab (k + 1) (upd (lf l) k y), some ⟨g2, 0, none⟩, cap, by rw [tab_len], by rw [tab_len]; exact hn, by rw [tab_len]; exact hcap, ?_, ?_, ?_⟩
  · rw [tab_len]
    refine .inr ⟨g2, 0, rfl, hne, ho3.lt, fun j hj => ?_⟩
    rw [Nat.zero_add, ho3.cell hj, lf_tab, if_pos hj]
  · exact hc.other hset (fun r hr => by injection hr with hr; omega)
  · exact grown_new hg3 hset (fun r hr => by injection hr with hr; omega)
set_option maxRecDepth 100000 in
set_option maxHeartbeats 3200000 in
theorem drawPoly_c (g : Nat) (f : Int) (n : Nat) (w : World) (hc : Cur g w) (hn : n ≤ 4096) : Calls Tryd.prog 44 #[.pointer (some ⟨g, 0, none⟩), .int .i64 f, .int .i64 n] w (ZPol g w n) := by
  have hB : g < w.heap.size := hc.lt
  go_enter Tryd.func44, Tryd.ntmps44
  go_wp2_with fail
  refine (drawList_c g f n w hc hn).mono ?_
  rintro e w1 ⟨v1, rfl, hz1⟩
  have hv1 := ZVal.of hB hz1
  have c1 := hz1.2.1
  clear hz1 hc
  by_cases hp : 0 < P f
  · have HC := Lib.hid (ZVal.cut hv1 hn)
    clear hv1
    go_wp2_with fail
    refine (sModulus f w1).mono ?_
    rintro e w' ⟨rfl, rfl⟩
    go_wp2_with fail
    refine HC.out.mono ?_
    rintro e w2 ⟨v2, rfl, hv2⟩
    have c2 : Cur g w2 := by obtain ⟨_, _, _, h, _⟩ := hv2; exact h
    clear HC c1
    go_wp2_with fail
    refine (once_c g 25 w2 c2 (by omega) (by omega)).mono ?_
    rintro e w5 ⟨bb, rfl, g5, c5⟩
    have HV := Lib.hid (hv2.grown g5 c5)
    clear hv2 c2 g5
    cases bb
    · go_wp2
      go_ret
      exact HV.out.pol
    · obtain ⟨l, a, cap, rfl, hl, ha⟩ := HV.out.cases
      by_cases hz : l.length = 0
      · have hd : decide ((0 : Int) < l.length) = false := decide_eq_false (by omega)
        have HP := Lib.hid HV.out.pol
        rw [hz] at HP
        clear ha
        go_wp2
        go_ret
        exact HP.out
      · obtain ⟨k, hk⟩ : ∃ k, l.length = k + 1 := ⟨l.length - 1, by omega⟩
        rcases ha with ha | ⟨g2, rfl, hne, h2, ho⟩
        · exact absurd ha hz
        have hd : decide ((0 : Int) < (k : Int) + 1) = true := decide_eq_true (by omega)
        have hg5 : w.grownBy w5 (some g) := by obtain ⟨_, _, _, _, h⟩ := HV.out; exact h
        rw [hk] at ho
        have HO := Lib.hid ho
        have HK := Lib.hid hk
        have hkn : k + 1 ≤ n := by omega
        rw [hk]
        clear ho hk hz HV hl
        go_wp2_with fail
        refine (sModulus f w5).mono ?_
        rintro e w' ⟨rfl, rfl⟩
        go_wp2_with fail
        refine (pick_c (fun _ => True) g w5.heap.size 3 3 _ (c5.alloc _) (by omega) (by omega) (ints_alloc (fun _ => True) c5.lt #[.int .i64 0, .int .i64 (-1), .int .i64 (P f)] 3 (fun j hj => by
          have h3 : j = 0 ∨ j = 1 ∨ j = 2 := by have : j < 3 := hj; omega
          rcases h3 with rfl | rfl | rfl <;> exact ⟨_, rfl, trivial⟩))).mono ?_
        rintro e w6 ⟨y, _, rfl, g6, c6⟩
        have g6' := (World.grownBy_alloc w5 _ (some g)).trans g6
        have HO6 := Lib.hid (HO.out.grown g6' hne)
        have cc := HO6.out.cell (show k < k + 1 by omega)
        have fr := HO6.out.frozen k
        go_wp2
        go_ret
        exact zpol_set HK.out hkn hne h2 HO.out hg5 g6' c6 hB
  · have hd0 : decide (0 < P f) = false := decide_eq_false hp
    go_wp2_with fail
    refine (sModulus f w1).mono ?_
    rintro e w' ⟨rfl, rfl⟩
    go_wp2_with fail
    refine (once_c g 25 w1 c1 (by omega) (by omega)).mono ?_
    rintro e w5 ⟨bb, rfl, g5, c5⟩
    have HV := Lib.hid (hv1.grown g5 c5)
    clear hv1 c1 g5
    cases bb
    · go_wp2
      go_ret
      exact HV.out.pol
    · obtain ⟨l, a, cap, rfl, hl, ha⟩ := HV.out.cases
      by_cases hz : l.length = 0
      · have hd : decide ((0 : Int) < l.length) = false := decide_eq_false (by omega)
        have HP := Lib.hid HV.out.pol
        rw [hz] at HP
        clear ha
        go_wp2
        go_ret
        exact HP.out
      · obtain ⟨k, hk⟩ : ∃ k, l.length = k + 1 := ⟨l.length - 1, by omega⟩
        rcases ha with ha | ⟨g2, rfl, hne, h2, ho⟩
        · exact absurd ha hz
        have hd : decide ((0 : Int) < (k : Int) + 1) = true := decide_eq_true (by omega)
        have hg5 : w.grownBy w5 (some g) := by obtain ⟨_, _, _, _, h⟩ := HV.out; exact h
        rw [hk] at ho
        have HO := Lib.hid ho
        have HK := Lib.hid hk
        have hkn : k + 1 ≤ n := by omega
        rw [hk]
        clear ho hk hz HV hl
        go_wp2_with fail
        refine (sModulus f w5).mono ?_
        rintro e w' ⟨rfl, rfl⟩
        go_wp2_with fail
        refine (pick_c (fun _ => True) g w5.heap.size 3 3 _ (c5.alloc _) (by omega) (by omega) (ints_alloc (fun _ => True) c5.lt #[.int .i64 0, .int .i64 (-1), .int .i64 (P f)] 3 (fun j hj => by
          have h3 : j = 0 ∨ j = 1 ∨ j = 2 := by have : j < 3 := hj; omega
          rcases h3 with rfl | rfl | rfl <;> exact ⟨_, rfl, trivial⟩))).mono ?_
        rintro e w6 ⟨y, _, rfl, g6, c6⟩
        have g6' := (World.grownBy_alloc w5 _ (some g)).trans g6
        have HO6 := Lib.hid (HO.out.grown g6' hne)
        have cc := HO6.out.cell (show k < k + 1 by omega)
        have fr := HO6.out.frozen k
        go_wp2
        go_ret
        exact zpol_set HK.out hkn hne h2 HO.out hg5 g6' c6 hB
end Go.Proofs.YtoohhcfanllhmaaDoor
namespace Go.Proofs.YtoohhcfanllhmaaDoor
theorem cut_mod {f : Int} {C : Nat → Int} {N : Nat} (hN : ∀ j, N ≤ j → C j = 0) (i : Nat) : C i % P f = lf (cutL N fun j => RS (C j) (P f)) i % P f := by
  rw [lf_cutL]
  by_cases h : i < N
  · rw [if_pos h]; unfold RS; rw [Int.emod_emod_of_dvd _ (Int.dvd_refl _)]
  · rw [if_neg h, hN i (by omega)]
theorem div_is {f : Int} (h0 : 0 ≤ f) (h8 : f ≤ 8) {a b : List Int} (ha : Pol f a) (hb : Pol f b) (hl : b.length ≠ 0) : DivP f a b (quoL f a b) (remL f a b) := by
  obtain ⟨hr1, hr2, C, ⟨N, hN⟩, hC⟩ := remL_is h0 h8 ha hb hl
  have h : DivP f a b (cutL N fun j => RS (C j) (P f)) (remL f a b) := ⟨Pol.cut (P_pos h0 h8) fun _ _ => RS_bd (P_pos h0 h8), hr1, hr2, fun j => by
    rw [hC j]
    exact emod_add_congr (cv_mod j (fun i => cut_mod hN i) (fun _ => rfl)) rfl⟩
  rw [quoL_eq h0 h8 hb h]
  exact h
theorem pow_is {f : Int} (h0 : 0 ≤ f) (h8 : f ≤ 8) {a m : List Int} (e : Nat) (hm : Pol f m) (hz : m.length ≠ 0) : IsPow f a e m (powL f a e m) := by
  obtain ⟨N, hN⟩ := FinS.pow (FinS.lf a) e
  have ht : Pol f (cutL N fun j => RS (powS (lf a) e j) (P f)) := Pol.cut (P_pos h0 h8) fun _ _ => RS_bd (P_pos h0 h8)
  have h := remL_is h0 h8 ht hm hz
  have hc : Cg f m (powS (lf a) e) (lf (cutL N fun j => RS (powS (lf a) e j) (P f))) := Cg.of fun j => cut_mod hN j
  have hp : IsPow f a e m (remL f (cutL N fun j => RS (powS (lf a) e j) (P f)) m) := ⟨h.1, h.2.1, hc.trans h.2.2⟩
  rw [powL_eq h0 h8 hm hp]
  exact hp
theorem comp_polV {f : Int} (h0 : 0 ≤ f) (h8 : f ≤ 8) (m l : List Int) : Pol f (compL f m l) := by
  cases l with
  | nil => exact Pol.nil (P_pos h0 h8)
  | cons x t => exact pol_addL h0 h8 _ _
/-- What FnDivBack asks. -/
theorem divBack_facts {f : Int} {l m : List Int} (hl : PolOk f l) (hm : PolOk f m) (hz : m.length ≠ 0) :
    mDivMod2 f l m = true ∧ (mDivMod1 f l m).length < m.length ∧ (mDivMod0 f l m).length ≤ 1048576 ∧ PolOk f (mDivMod0 f l m) ∧ (mDivMod0 f l m).length + m.length ≤ 401 ∧ (mulL f (mDivMod0 f l m) m).length ≤ 1048576 ∧ mAddPoly f (mulL f (mDivMod0 f l m) m) (mDivMod1 f l m) = l := by
  obtain ⟨⟨h0, h8⟩, hl4, pl⟩ := hl
  obtain ⟨_, hm4, pm⟩ := hm
  have hok : okDiv f l m := ⟨⟨⟨h0, h8⟩, hl4, pl⟩, ⟨⟨h0, h8⟩, hm4, pm⟩, hz⟩
  have e0 : mDivMod0 f l m = quoL f l m := by unfold mDivMod0; rw [if_pos hok]
  have e1 : mDivMod1 f l m = remL f l m := by unfold mDivMod1; rw [if_pos hok]
  have e2 : mDivMod2 f l m = true := by unfold mDivMod2; simp [hok]
  have hd := div_is h0 h8 pl pm hz
  have hln := div_len h0 h8 pm hd
  have hml := mulL_le f (quoL f l m) m
  have hr := hd.2.2.1
  rw [e0, e1]
  refine ⟨e2, hr, by omega, ⟨⟨h0, h8⟩, by omega, hd.1⟩, by omega, by omega, ?_⟩
  unfold mAddPoly
  rw [if_pos ⟨⟨⟨h0, h8⟩, by omega, pol_mulL h0 h8 _ _⟩, ⟨⟨h0, h8⟩, by omega, hd.2.1⟩⟩]
  exact div_back h0 h8 pl hd
/-- What FnPowMod asks. -/
theorem powMod_facts {f : Int} {l m : List Int} {e : Int} (hl : PolOk f l) (hm : PolOk f m) (hz : m.length ≠ 0) (hl1 : l.length ≤ 100) (hm1 : m.length ≤ 100) (e0 : 0 ≤ e) (e1 : e < 1000000) :
    mPowMod1 f l e m = true ∧ mPowMod1 f l (e + 1) m = true ∧ (mPowMod0 f l e m).length ≤ 1048576 ∧ (mPowMod0 f l (e + 1) m).length ≤ 1048576 ∧ PolOk f (mPowMod0 f l e m) ∧ (mPowMod0 f l e m).length + l.length ≤ 401 ∧ (mulL f (mPowMod0 f l e m) l).length ≤ 1048576 ∧ PolOk f (mulL f (mPowMod0 f l e m) l) ∧ mDivMod2 f (mulL f (mPowMod0 f l e m) l) m = true ∧ mDivMod1 f (mulL f (mPowMod0 f l e m) l) m = mPowMod0 f l (e + 1) m := by
  have hl' := hl
  have hm' := hm
  obtain ⟨⟨h0, h8⟩, hl4, pl⟩ := hl
  obtain ⟨_, hm4, pm⟩ := hm
  have ok1 : okPow f l e m := ⟨hl', hm', hz, e0, by omega⟩
  have ok2 : okPow f l (e + 1) m := ⟨hl', hm', hz, by omega, by omega⟩
  have a0 : mPowMod0 f l e m = powL f l e.toNat m := by unfold mPowMod0; rw [if_pos ok1]
  have a1 : mPowMod0 f l (e + 1) m = powL f l (e.toNat + 1) m := by
    unfold mPowMod0; rw [if_pos ok2, show (e + 1).toNat = e.toNat + 1 by omega]
  have b0 : mPowMod1 f l e m = true := by unfold mPowMod1; simp [ok1]
  have b1 : mPowMod1 f l (e + 1) m = true := by unfold mPowMod1; simp [ok2]
  have x := pow_is (a := l) h0 h8 e.toNat pm hz
  have y := pow_is (a := l) h0 h8 (e.toNat + 1) pm hz
  have lx := x.2.1
  have ly := y.2.1
  have hml := mulL_le f (powL f l e.toNat m) l
  have pml := pol_mulL h0 h8 (powL f l e.toNat m) l
  have hrem := remL_is h0 h8 pml pm hz
  rw [a0, a1]
  have okp : PolOk f (mulL f (powL f l e.toNat m) l) := ⟨⟨h0, h8⟩, by omega, pml⟩
  have okd : okDiv f (mulL f (powL f l e.toNat m) l) m := ⟨okp, hm', hz⟩
  refine ⟨b0, b1, by omega, by omega, ⟨⟨h0, h8⟩, by omega, x.1⟩, by omega, by omega, okp, ?_, ?_⟩
  · unfold mDivMod2; simp [okd]
  · unfold mDivMod1
    rw [if_pos okd]
    exact IsPow.succ h0 h8 pm x y hrem
theorem pok_gcd {f : Int} {l m : List Int} (hl : PolOk f l) (hm : PolOk f m) (hz : l.length + m.length ≠ 0) :
    PolOk f (gcdM f l m) ∧ (gcdM f l m).length ≠ 0 ∧ lf (gcdM f l m) ((gcdM f l m).length - 1) = 1 ∧ (gcdM f l m).length ≤ max l.length m.length := by
  obtain ⟨⟨h0, h8⟩, hl4, pl⟩ := hl
  obtain ⟨_, hm4, pm⟩ := hm
  have hb := gcd_both h0 h8 m.length l m (Nat.le_refl _) pl pm
  have hn := gcd_nz h0 h8 m.length l m (Nat.le_refl _) hz
  have hlen := monL_len h0 h8 hb.1 hn
  have htop := monL_top h0 h8 hb.1 hn
  have hmax := len_gcdM h0 h8 l m
  have e : gcdM f l m = monL f (gcdL f l m) := rfl
  refine ⟨⟨⟨h0, h8⟩, by omega, ?_⟩, ?_, ?_, hmax⟩
  · rw [e]; exact monL_pol h0 h8 _
  · rw [e, hlen]; exact hn
  · rw [e, hlen]; exact htop
theorem gcd_rem {f : Int} {l m : List Int} (hl : PolOk f l) (hm : PolOk f m) (hz : l.length + m.length ≠ 0) :
    mDivMod1 f l (gcdM f l m) = [] ∧ mDivMod2 f l (gcdM f l m) = true ∧ mDivMod1 f m (gcdM f l m) = [] ∧ mDivMod2 f m (gcdM f l m) = true := by
  obtain ⟨gk, gz, _, _⟩ := pok_gcd hl hm hz
  have okl : okDiv f l (gcdM f l m) := ⟨hl, gk, gz⟩
  have okm : okDiv f m (gcdM f l m) := ⟨hm, gk, gz⟩
  obtain ⟨⟨h0, h8⟩, hl4, pl⟩ := hl
  obtain ⟨_, hm4, pm⟩ := hm
  have hb := gcd_both h0 h8 m.length l m (Nat.le_refl _) pl pm
  have hn := gcd_nz h0 h8 m.length l m (Nat.le_refl _) hz
  have d1 : Dv f (gcdM f l m) (lf l) := monL_dv h0 h8 hb.1 hn hb.2.1
  have d2 : Dv f (gcdM f l m) (lf m) := monL_dv h0 h8 hb.1 hn hb.2.2
  have r1 := remL_eq h0 h8 gk.2.2 (Dv.rem h0 h8 gz d1)
  have r2 := remL_eq h0 h8 gk.2.2 (Dv.rem h0 h8 gz d2)
  refine ⟨?_, ?_, ?_, ?_⟩
  · unfold mDivMod1; rw [if_pos okl]; exact r1
  · unfold mDivMod2; simp [okl]
  · unfold mDivMod1; rw [if_pos okm]; exact r2
  · unfold mDivMod2; simp [okm]
theorem pol_two {f x : Int} (h0 : 0 ≤ f) (h8 : f ≤ 8) (x0 : 0 ≤ x) (x1 : x < P f) : Pol f [x, 1] := by
  have hp := P_bd h0 h8
  refine ⟨fun j => ?_, .inr ?_⟩
  · match j with
    | 0 => exact ⟨x0, x1⟩
    | 1 => exact ⟨show (0 : Int) ≤ 1 by omega, show (1 : Int) < P f by omega⟩
    | j + 2 => rw [lf_out [x, 1] (show 2 ≤ j + 2 by omega)]; omega
  · show lf [x, 1] 1 ≠ 0
    show (1 : Int) ≠ 0
    omega
theorem gcd_prod {f : Int} {l m d : List Int} (hl : PolOk f l) (hm : PolOk f m) (hd : Pol f d) (hz : l.length + m.length ≠ 0) (h2 : d.length = 2) (h1 : lf d 1 = 1) (k1 : okMul f l d) (k2 : okMul f m d) :
    PolOk f (mulL f l d) ∧ PolOk f (mulL f m d) ∧ okMul f (gcdM f l m) d ∧ mGcdPoly f (mulL f l d) (mulL f m d) = mulL f (gcdM f l m) d := by
  obtain ⟨gk, gz, _, gle⟩ := pok_gcd hl hm hz
  have hdk := k1.2.1
  have n1 := k1.2.2
  have n2 := k2.2.2
  have q1 := mulL_le f l d
  have q2 := mulL_le f m d
  obtain ⟨⟨h0, h8⟩, hl4, pl⟩ := hl
  obtain ⟨_, hm4, pm⟩ := hm
  have hd0 : d.length ≠ 0 := by omega
  have hb := gcd_both h0 h8 m.length l m (Nat.le_refl _) pl pm
  have hn := gcd_nz h0 h8 m.length l m (Nat.le_refl _) hz
  have p1 : PolOk f (mulL f l d) := ⟨⟨h0, h8⟩, by omega, pol_mulL h0 h8 _ _⟩
  have p2 : PolOk f (mulL f m d) := ⟨⟨h0, h8⟩, by omega, pol_mulL h0 h8 _ _⟩
  refine ⟨p1, p2, ⟨gk, hdk, by omega⟩, ?_⟩
  unfold mGcdPoly
  rw [if_pos ⟨p1, p2⟩]
  show monL f (gcdL f (mulL f l d) (mulL f m d)) = mulL f (monL f (gcdL f l m)) d
  rw [gcd_mul h0 h8 hd hd0 m.length l m (Nat.le_refl _) pl pm]
  exact mon_mul h0 h8 hb.1 hd hn hd0 (by rw [h2]; exact h1)
/-- What FnEvalProduct asks. -/
theorem evalProduct_facts {f : Int} {l m : List Int} (hl : PolOk f l) (hm : PolOk f m) (hlm : l.length + m.length ≤ 401) (x : Int) :
    mEvalPoly f (mulL f l m) x = mMul f (mEvalPoly f l x) (mEvalPoly f m x) ∧ okMul f l m ∧ PolOk f (mulL f l m) ∧ (mCompose1 f l m = true → mEvalPoly f (mCompose0 f l m) x = mEvalPoly f l (mEvalPoly f m x)) := by
  have hl' := hl
  have hm' := hm
  obtain ⟨⟨h0, h8⟩, hl4, pl⟩ := hl
  obtain ⟨_, hm4, pm⟩ := hm
  have hml := mulL_le f l m
  have pk : PolOk f (mulL f l m) := ⟨⟨h0, h8⟩, by omega, pol_mulL h0 h8 _ _⟩
  refine ⟨?_, ⟨hl', hm', hlm⟩, pk, fun h => ?_⟩
  · unfold mEvalPoly mMul
    rw [if_pos pk, if_pos hl', if_pos hm', if_pos ⟨h0, h8⟩]
    exact evL_mul f x l m
  · have ok : okComp f l m := by unfold mCompose1 at h; simpa using h
    have hle := comp_le ok
    have pc : PolOk f (compL f m l) := ⟨⟨h0, h8⟩, hle, comp_polV h0 h8 m l⟩
    have e : mCompose0 f l m = compL f m l := by unfold mCompose0; rw [if_pos ok]
    rw [e]
    unfold mEvalPoly
    rw [if_pos pc, if_pos hl', if_pos hm']
    exact evL_comp f x m l
end Go.Proofs.YtoohhcfanllhmaaDoor
namespace Go.Proofs.YtoohhcfanllhmaaDoor
open Go.RowKit
theorem drawPolyI_c (g : Nat) (f x : Int) (w : World) (hc : Cur g w) (x0 : 0 ≤ x) (x1 : x ≤ 4096) : Calls Tryd.prog 44 #[.pointer (some ⟨g, 0, none⟩), .int .i64 f, .int .i64 x] w (ZPol g w x.toNat) := by
  have h := drawPoly_c g f x.toNat w hc (by omega)
  rwa [Int.toNat_of_nonneg x0] at h
def Draw2L (N : Nat) (w : World) (e : Ending) (w' : World) : Prop := ∃ (f : Int) (a : Option Addr) (l : List Int) (cap : Nat) (a2 : Option Addr) (m : List Int) (cap2 : Nat),
  e = .returned (.tuple #[.int .i64 f, .slice a l.length cap, .slice a2 m.length cap2]) ∧ l.length ≤ N ∧ m.length ≤ N ∧ Src w' a l.length (lf l) ∧ Src w' a2 m.length (lf m) ∧ Below w.heap.size w w'
set_option maxRecDepth 100000 in
set_option maxHeartbeats 3200000 in
theorem drawTwo_c (a : Option Addr) (len cap : Nat) (most : Int) (w : World) (hl : len ≤ 1048576) (hc : Code w a len) (m0 : 1 ≤ most) (m1 : most ≤ 1000) : Calls Tryd.prog 29 #[.slice a len cap, .int .i64 most] w (Draw2L 1048576 w) := by
  go_enter Tryd.func29, Tryd.ntmps29
  go_wp2_with fail
  refine (new_c a len cap w hc).mono ?_
  rintro e w1 ⟨rfl, b1, c1⟩
  go_wp2_with fail
  refine (field_c w.heap.size w1 c1).mono ?_
  rintro e w2 ⟨f, _, rfl, g2, c2⟩
  go_wp2_with fail
  refine (sizeM_c a len cap most w2 hl m0 m1).mono ?_
  rintro e w' ⟨r, rfl, r0, r1, rfl⟩
  go_wp2_with fail
  refine (below_c w.heap.size r w2 c2 (by omega) (by omega)).mono ?_
  rintro e w3 ⟨x, ⟨x0, x1⟩, rfl, g3, c3⟩
  have b3 := below_of_grown b1 (g2.trans g3)
  clear b1 g2 g3 c1 c2 hc
  go_wp2_with fail
  refine (drawPolyI_c w.heap.size f x w3 c3 x0 (by omega)).mono ?_
  rintro e w4 ⟨l, a4, cap4, rfl, hl4, _, s4, c4, g4⟩
  have b4 := below_of_grown b3 g4
  have HS4 := Lib.hid s4
  have hl4' : l.length ≤ 4096 := by omega
  clear b3 g4 c3 s4
  go_wp2_with fail
  refine (sizeM_c a len cap most w4 hl m0 m1).mono ?_
  rintro e w' ⟨r2, rfl, r20, r21, rfl⟩
  go_wp2_with fail
  refine (below_c w.heap.size r2 w4 c4 (by omega) (by omega)).mono ?_
  rintro e w5 ⟨y, ⟨y0, y1⟩, rfl, g5, c5⟩
  have b5 := below_of_grown b4 g5
  have HS5 := Lib.hid (HS4.out.grown g5)
  clear b4 g5 c4 HS4
  go_wp2_with fail
  refine (drawPolyI_c w.heap.size f y w5 c5 y0 (by omega)).mono ?_
  rintro e w6 ⟨m, a6, cap6, rfl, hm6, _, s6, c6, g6⟩
  have b6 := below_of_grown b5 g6
  have HL6 := Lib.hid (HS5.out.grown g6)
  have HM6 := Lib.hid s6
  have hm6' : m.length ≤ 4096 := by omega
  clear b5 g6 c5 s6 HS5
  go_wp2_with fail
  refine (once_c w.heap.size 4 w6 c6 (by omega) (by omega)).mono ?_
  rintro e w7 ⟨bb, rfl, g7, c7⟩
  have b7 := below_of_grown b6 g7
  have HL7 := Lib.hid (HL6.out.grown g7)
  have HM7 := Lib.hid (HM6.out.grown g7)
  clear b6 g7 c6 HL6 HM6 hl4 hm6
  have HEND : Hid (Draw2L 1048576 w (.returned (.tuple #[.int .i64 f, .slice a4 l.length cap4, .slice a6 m.length cap6])) w7) := Lib.hid ⟨f, a4, l, cap4, a6, m, cap6, rfl, by omega, by omega, HL7.out.src, HM7.out.src, b7⟩
  cases bb
  · go_wp2
    go_ret3
    exact HEND.out
  · have R1 := sPolyOk f a4 l cap4 w7 (by omega) HL7.out.src
    have R2 := sPolyOk f a6 m cap6 w7 (by omega) HM7.out.src
    by_cases k1 : PolOk f l
    · rw [pok_iff.2 k1] at R1
      by_cases k2 : PolOk f m
      · rw [pok_iff.2 k2] at R2
        have HR1 := Lib.hid R1
        have HR2 := Lib.hid R2
        have HK1 := Lib.hid k1
        have HK2 := Lib.hid k2
        clear R1 R2 k1 k2
        go_wp2_with fail
        refine HR1.out.mono ?_
        rintro e w' ⟨rfl, rfl⟩
        go_wp2_with fail
        refine HR2.out.mono ?_
        rintro e w' ⟨rfl, rfl⟩
        go_wp2_with fail
        refine (below_c w.heap.size 8 w7 c7 (by omega) (by omega)).mono ?_
        rintro e w8 ⟨z, ⟨z0, z1⟩, rfl, g8, c8⟩
        have b8 := below_of_grown b7 g8
        have HL8 := Lib.hid (HL7.out.grown g8)
        have HM8 := Lib.hid (HM7.out.grown g8)
        clear b7 g8 c7 HL7 HM7 HEND HR1 HR2
        go_wp2_with fail
        refine (drawPolyI_c w.heap.size f z w8 c8 z0 (by omega)).mono ?_
        rintro e w9 ⟨d, a9, cap9, rfl, hd9, _, s9, c9, g9⟩
        have b9 := below_of_grown b8 g9
        have HL9 := Lib.hid (HL8.out.grown g9)
        have HM9 := Lib.hid (HM8.out.grown g9)
        have HD9 := Lib.hid s9
        have hd9' : d.length ≤ 4096 := by omega
        have R3 := sPolyOk f a9 d cap9 w9 (by omega) s9.src
        have HEND : Hid (Draw2L 1048576 w (.returned (.tuple #[.int .i64 f, .slice a4 l.length cap4, .slice a6 m.length cap6])) w9) := Lib.hid ⟨f, a4, l, cap4, a6, m, cap6, rfl, by omega, by omega, HL9.out.src, HM9.out.src, b9⟩
        clear b8 g9 c8 HL8 HM8 s9 hd9
        by_cases k3 : PolOk f d
        · rw [pok_iff.2 k3] at R3
          have HR3 := Lib.hid R3
          have HK3 := Lib.hid k3
          have h08 := k3.1
          have HC1 := Lib.hid (lmul_c f a4 a9 l d cap4 cap9 w9 k3.1.1 k3.1.2 hl4' hd9' HK1.out.2.2 k3.2.2 HL9.out.src HD9.out.src)
          clear R3 k3
          go_wp2_with fail
          refine HR3.out.mono ?_
          rintro e w' ⟨rfl, rfl⟩
          go_wp2_with fail
          refine HC1.out.mono ?_
          intro e w10 ho10
          obtain ⟨a10, cap10, rfl, s10, b10⟩ := ho10.list
          have HS10 := Lib.hid s10
          have HC2 := Lib.hid (lmul_c f a6 a9 m d cap6 cap9 w10 h08.1 h08.2 hm6' hd9' HK2.out.2.2 HK3.out.2.2 (HM9.out.src.keep b10) (HD9.out.src.keep b10))
          have b10w := below_step b9 b10
          clear ho10 s10 HC1 HL9 HM9 HD9 b9 b10 HEND
          go_wp2_with fail
          refine HC2.out.mono ?_
          intro e w11 ho11
          obtain ⟨a11, cap11, rfl, s11, b11⟩ := ho11.list
          have HS11 := Lib.hid s11
          have HS10b := Lib.hid (HS10.out.keep b11)
          have b11w := below_step b10w b11
          have q1 := mulL_le f l d
          have q2 := mulL_le f m d
          clear ho11 s11 HC2 HS10 b10w b11
          go_wp2
          go_ret3
          exact ⟨f, a10, mulL f l d, cap10, a11, mulL f m d, cap11, rfl, by omega, by omega, HS10b.out, HS11.out, b11w⟩
        · rw [pok_not.2 k3] at R3
          have HR3 := Lib.hid R3
          clear R3 k3
          go_wp2_with fail
          refine HR3.out.mono ?_
          rintro e w' ⟨rfl, rfl⟩
          go_wp2
          go_ret3
          exact HEND.out
      · rw [pok_not.2 k2] at R2
        have HR1 := Lib.hid R1
        have HR2 := Lib.hid R2
        clear R1 R2 k1 k2
        go_wp2_with fail
        refine HR1.out.mono ?_
        rintro e w' ⟨rfl, rfl⟩
        go_wp2_with fail
        refine HR2.out.mono ?_
        rintro e w' ⟨rfl, rfl⟩
        go_wp2
        go_ret3
        exact HEND.out
    · rw [pok_not.2 k1] at R1
      have HR1 := Lib.hid R1
      clear R1 R2 k1
      go_wp2_with fail
      refine HR1.out.mono ?_
      rintro e w' ⟨rfl, rfl⟩
      go_wp2
      go_ret3
      exact HEND.out
theorem drawDivMod_c (a : Option Addr) (len cap : Nat) (w : World) (hl : len ≤ 1048576) (hc : Code w a len) : Calls Tryd.prog 8 #[.slice a len cap] w (Draw2L 1048576 w) := by
  go_enter Tryd.func8, Tryd.ntmps8
  go_wp2_with fail
  refine (drawTwo_c a len cap 60 w hl hc (by omega) (by omega)).mono ?_
  rintro e w1 ⟨f, a1, l, cap1, a2, m, cap2, rfl, h1, h2, s1, s2, b1⟩
  have HS1 := Lib.hid s1
  have HS2 := Lib.hid s2
  clear s1 s2
  by_cases hlt : l.length < m.length
  · have hd : decide ((l.length : Int) < m.length) = true := decide_eq_true (by omega)
    by_cases h3 : (0 : Int) < (len : Int) % 3
    · go_wp2
      go_ret3
      exact ⟨f, a2, m, cap2, a1, l, cap1, rfl, h2, h1, HS2.out, HS1.out, b1⟩
    · have hd3 : decide ((0 : Int) < (len : Int) % 3) = false := decide_eq_false h3
      go_wp2
      go_ret3
      exact ⟨f, a1, l, cap1, a2, m, cap2, rfl, h1, h2, HS1.out, HS2.out, b1⟩
  · have hd : decide ((l.length : Int) < m.length) = false := decide_eq_false (by omega)
    go_wp2
    go_ret3
    exact ⟨f, a1, l, cap1, a2, m, cap2, rfl, h1, h2, HS1.out, HS2.out, b1⟩
theorem drawGcdPoly_c (a : Option Addr) (len cap : Nat) (w : World) (hl : len ≤ 1048576) (hc : Code w a len) : Calls Tryd.prog 15 #[.slice a len cap] w (Draw2L 1048576 w) := by
  go_enter Tryd.func15, Tryd.ntmps15
  go_wp2_with fail
  refine (drawTwo_c a len cap 30 w hl hc (by omega) (by omega)).mono ?_
  rintro e w1 ⟨f, a1, l, cap1, a2, m, cap2, rfl, h1, h2, s1, s2, b1⟩
  have HS1 := Lib.hid s1
  have HS2 := Lib.hid s2
  clear s1 s2
  go_wp2
  go_ret3
  exact ⟨f, a1, l, cap1, a2, m, cap2, rfl, h1, h2, HS1.out, HS2.out, b1⟩
set_option maxRecDepth 100000 in
set_option maxHeartbeats 3200000 in
theorem drawCompose_c (a : Option Addr) (len cap : Nat) (w : World) (hl : len ≤ 1048576) (hc : Code w a len) : Calls Tryd.prog 21 #[.slice a len cap] w (Draw2L 100 w) := by
  go_enter Tryd.func21, Tryd.ntmps21
  go_wp2_with fail
  refine (new_c a len cap w hc).mono ?_
  rintro e w1 ⟨rfl, b1, c1⟩
  go_wp2_with fail
  refine (field_c w.heap.size w1 c1).mono ?_
  rintro e w2 ⟨f, _, rfl, g2, c2⟩
  go_wp2_with fail
  refine (once_c w.heap.size 8 w2 c2 (by omega) (by omega)).mono ?_
  rintro e w3 ⟨bb, rfl, g3, c3⟩
  have b3 := below_of_grown b1 (g2.trans g3)
  clear b1 g2 g3 c1 c2 hc
  cases bb
  · go_wp2_with fail
    refine (sizeM_c a len cap 14 w3 hl (by omega) (by omega)).mono ?_
    rintro e w' ⟨r, rfl, r0, r1, rfl⟩
    go_wp2_with fail
    refine (below_c w.heap.size r w3 c3 (by omega) (by omega)).mono ?_
    rintro e w4 ⟨x, ⟨x0, x1⟩, rfl, g4, c4⟩
    go_wp2_with fail
    refine (drawPolyI_c w.heap.size f x w4 c4 x0 (by omega)).mono ?_
    rintro e w5 ⟨l, a5, cap5, rfl, hl5, _, s5, c5, g5⟩
    have b5 := below_of_grown b3 (g4.trans g5)
    have HS5 := Lib.hid s5
    have hl5' : l.length ≤ 100 := by omega
    clear b3 g4 g5 c3 c4 s5
    go_wp2_with fail
    refine (sizeM_c a len cap 12 w5 hl (by omega) (by omega)).mono ?_
    rintro e w' ⟨r2, rfl, r20, r21, rfl⟩
    go_wp2_with fail
    refine (below_c w.heap.size r2 w5 c5 (by omega) (by omega)).mono ?_
    rintro e w6 ⟨y, ⟨y0, y1⟩, rfl, g6, c6⟩
    go_wp2_with fail
    refine (drawPolyI_c w.heap.size f y w6 c6 y0 (by omega)).mono ?_
    rintro e w7 ⟨m, a7, cap7, rfl, hm7, _, s7, c7, g7⟩
    have b7 := below_of_grown b5 (g6.trans g7)
    have HS5b := Lib.hid (HS5.out.grown (g6.trans g7))
    have HS7 := Lib.hid s7
    have hm7' : m.length ≤ 100 := by omega
    clear b5 g6 g7 c5 c6 s7 HS5
    go_wp2
    go_ret3
    exact ⟨f, a5, l, cap5, a7, m, cap7, rfl, hl5', hm7', HS5b.out.src, HS7.out.src, b7⟩
  · go_wp2_with fail
    refine (below_c w.heap.size 3 w3 c3 (by omega) (by omega)).mono ?_
    rintro e w4 ⟨x, ⟨x0, x1⟩, rfl, g4, c4⟩
    go_wp2_with fail
    refine (drawPolyI_c w.heap.size f (20 + x) w4 c4 (by omega) (by omega)).mono ?_
    rintro e w5 ⟨l, a5, cap5, rfl, hl5, _, s5, c5, g5⟩
    have b5 := below_of_grown b3 (g4.trans g5)
    have HS5 := Lib.hid s5
    have hl5' : l.length ≤ 100 := by omega
    clear b3 g4 g5 c3 c4 s5
    go_wp2_with fail
    refine (below_c w.heap.size 2 w5 c5 (by omega) (by omega)).mono ?_
    rintro e w6 ⟨y, ⟨y0, y1⟩, rfl, g6, c6⟩
    go_wp2_with fail
    refine (drawPolyI_c w.heap.size f (20 + y) w6 c6 (by omega) (by omega)).mono ?_
    rintro e w7 ⟨m, a7, cap7, rfl, hm7, _, s7, c7, g7⟩
    have b7 := below_of_grown b5 (g6.trans g7)
    have HS5b := Lib.hid (HS5.out.grown (g6.trans g7))
    have HS7 := Lib.hid s7
    have hm7' : m.length ≤ 100 := by omega
    clear b5 g6 g7 c5 c6 s7 HS5
    go_wp2
    go_ret3
    exact ⟨f, a5, l, cap5, a7, m, cap7, rfl, hl5', hm7', HS5b.out.src, HS7.out.src, b7⟩
theorem results_tmpZ {fn : Func} {t u v x : Tmp} (h : fn.results = #[.tmp t, .tmp u, .tmp v, .tmp x]) (tmps : Array Value) (P : Program) (w : World) :
    (results fn tmps).run P w = .ok (.tuple #[tmps.getD t undef, tmps.getD u undef, tmps.getD v undef, tmps.getD x undef]) w := by
  simp [results, h]
def DrawPM (w : World) (e : Ending) (w' : World) : Prop := ∃ (f : Int) (a : Option Addr) (l : List Int) (cap : Nat) (x : Int) (a2 : Option Addr) (m : List Int) (cap2 : Nat),
  e = .returned (.tuple #[.int .i64 f, .slice a l.length cap, .int .i64 x, .slice a2 m.length cap2]) ∧ l.length ≤ 1048576 ∧ m.length ≤ 1048576 ∧ Src w' a l.length (lf l) ∧ Src w' a2 m.length (lf m) ∧ Below w.heap.size w w'
set_option maxRecDepth 100000 in
set_option maxHeartbeats 3200000 in
theorem drawPowMod_c (a : Option Addr) (len cap : Nat) (w : World) (hl : len ≤ 1048576) (hc : Code w a len) : Calls Tryd.prog 27 #[.slice a len cap] w (DrawPM w) := by
  go_enter Tryd.func27, Tryd.ntmps27
  go_wp2_with fail
  refine (new_c a len cap w hc).mono ?_
  rintro e w1 ⟨rfl, b1, c1⟩
  go_wp2_with fail
  refine (field_c w.heap.size w1 c1).mono ?_
  rintro e w2 ⟨f, _, rfl, g2, c2⟩
  go_wp2_with fail
  refine (sizeM_c a len cap 20 w2 hl (by omega) (by omega)).mono ?_
  rintro e w' ⟨r, rfl, r0, r1, rfl⟩
  go_wp2_with fail
  refine (below_c w.heap.size r w2 c2 (by omega) (by omega)).mono ?_
  rintro e w4 ⟨x, ⟨x0, x1⟩, rfl, g4, c4⟩
  go_wp2_with fail
  refine (drawPolyI_c w.heap.size f x w4 c4 x0 (by omega)).mono ?_
  rintro e w5 ⟨l, a5, cap5, rfl, hl5, _, s5, c5, g5⟩
  have b5 := below_of_grown b1 ((g2.trans g4).trans g5)
  have HS5 := Lib.hid s5
  have hl5' : l.length ≤ 1048576 := by omega
  clear b1 g2 g4 g5 c1 c2 c4 s5 hc
  go_wp2_with fail
  refine (sizeM_c a len cap 14 w5 hl (by omega) (by omega)).mono ?_
  rintro e w' ⟨r2, rfl, r20, r21, rfl⟩
  go_wp2_with fail
  refine (below_c w.heap.size r2 w5 c5 (by omega) (by omega)).mono ?_
  rintro e w6 ⟨y, ⟨y0, y1⟩, rfl, g6, c6⟩
  go_wp2_with fail
  refine (drawPolyI_c w.heap.size f y w6 c6 y0 (by omega)).mono ?_
  rintro e w7 ⟨m, a7, cap7, rfl, hm7, _, s7, c7, g7⟩
  have b7 := below_of_grown b5 (g6.trans g7)
  have HS5b := Lib.hid (HS5.out.grown (g6.trans g7))
  have HS7 := Lib.hid s7
  have hm7' : m.length ≤ 1048576 := by omega
  clear b5 g6 g7 c5 c6 s7 HS5
  go_wp2_with fail
  refine (sModulus f w7).mono ?_
  rintro e w' ⟨rfl, rfl⟩
  go_wp2_with fail
  refine (below_c w.heap.size 1000 w7 c7 (by omega) (by omega)).mono ?_
  rintro e w8 ⟨z, ⟨z0, z1⟩, rfl, g8, c8⟩
  have b8 := below_of_grown b7 g8
  have HS8 := Lib.hid (HS5b.out.grown g8)
  have HT8 := Lib.hid (HS7.out.grown g8)
  clear b7 g8 c7 HS5b HS7
  go_wp2_with fail
  refine (pick_c (fun _ => True) w.heap.size w8.heap.size 9 9 _ (c8.alloc _) (by omega) (by omega) (ints_alloc (fun _ => True) c8.lt #[.int .i64 0, .int .i64 1, .int .i64 2, .int .i64 3, .int .i64 ((P f).tmod 1000001), .int .i64 1000000, .int .i64 1000001, .int .i64 (-1), .int .i64 z] 3 (fun j hj => by
    have h3 : j = 0 ∨ j = 1 ∨ j = 2 ∨ j = 3 ∨ j = 4 ∨ j = 5 ∨ j = 6 ∨ j = 7 ∨ j = 8 := by have : j < 9 := hj; omega
    rcases h3 with rfl | rfl | rfl | rfl | rfl | rfl | rfl | rfl | rfl <;> exact ⟨_, rfl, trivial⟩))).mono ?_
  rintro e w9 ⟨u, _, rfl, g9, c9⟩
  have g9' := (World.grownBy_alloc w8 _ (some w.heap.size)).trans g9
  have b9 := below_of_grown b8 g9'
  have HS9 := Lib.hid (HS8.out.grown g9')
  have HT9 := Lib.hid (HT8.out.grown g9')
  clear b8 g9 g9' c8 HS8 HT8
  go_wp2
  (try simp only [Exit.inBlock, Exit.then])
  refine bodyPost_ret (results_tmpZ rfl _ _ _) rfl ?_
  exact ⟨f, a5, l, cap5, u, a7, m, cap7, rfl, hl5', hm7', HS9.out.src, HT9.out.src, b9⟩
theorem src_new2 (w : World) (x y : Int) : Src (w.alloc (.cells #[.int .i64 x, .int .i64 y] 3)) (some ⟨w.heap.size, 0, none⟩) ([x, y] : List Int).length (lf [x, y]) := by
  refine .inr ⟨w.heap.size, 0, rfl, by simp, fun j hj => ?_⟩
  have hj2 : j < 2 := hj
  have h2 := cell_two w (.int .i64 x) (.int .i64 y) 3
  match j, hj2 with
  | 0, _ => exact h2.1
  | 1, _ => exact h2.2
/-- A byte of the code, or a number below 256. -/
theorem byteAt_c (a : Option Addr) (len cap i : Nat) (w : World) (hl : len ≤ 1048576) (hi : i ≤ 1000) (hc : Code w a len) : Calls Tryd.prog 17 #[.slice a len cap, .int .i64 i] w fun e w' => ∃ x : Int, e = .returned (.int .i64 x) ∧ 0 ≤ x ∧ x < 256 ∧ w = w' := by
  by_cases h : i < len
  · have hd : decide ((i : Int) < len) = true := decide_eq_true (by omega)
    rcases hc.2 with hz | ⟨b, off, rfl, hne, hlt, hb⟩
    · omega
    · obtain ⟨n, n0, n1, hcell⟩ := hb i h
      go_enter Tryd.func17, Tryd.ntmps17
      go_wp2
      go_ret
      exact ⟨n, rfl, n0, n1, rfl⟩
  · have hd : decide ((i : Int) < len) = false := decide_eq_false (by omega)
    go_enter Tryd.func17, Tryd.ntmps17
    go_wp2
    go_ret
    exact ⟨_, rfl, by omega, by omega, rfl⟩
end Go.Proofs.YtoohhcfanllhmaaDoor
