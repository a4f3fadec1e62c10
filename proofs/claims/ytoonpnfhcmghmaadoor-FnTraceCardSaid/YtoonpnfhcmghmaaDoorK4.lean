/-
  Texts of the proofs of this seat, joined (part 4).
-/
import Derived.Deep.CutRange
import Derived.StillTailTactics
import Derived.Laws.EntriesVeiled
import Derived.Test.YtoonpnfhcmghmaaDoorK3
namespace Go.Proofs.YtoonpnfhcmghmaaDoor
open Go.RowKit
theorem two_start8 (w : World) (u v u2 v2 : Value) (t t2 : TypeId) : TwoB w.heap.size u v t ((w.alloc (.cells #[u, v] t)).alloc (.cells #[u2, v2] t2)) ∧ TwoB (w.heap.size + 1) u2 v2 t2 ((w.alloc (.cells #[u, v] t)).alloc (.cells #[u2, v2] t2)) ∧ Below w.heap.size w ((w.alloc (.cells #[u, v] t)).alloc (.cells #[u2, v2] t2)) := by
  have hz : (w.alloc (.cells #[u, v] t)).heap.size = w.heap.size + 1 := by simp
  have hb1 := below_alloc (w.alloc (.cells #[u, v] t)) (.cells #[u2, v2] t2)
  have t1 := twoB_new (w.alloc (.cells #[u, v] t)) u2 v2 t2
  rw [hz] at t1
  exact ⟨(twoB_new w u v t).keep hb1 (by omega), t1, below_up (below_alloc w _) hb1 (by omega)⟩
set_option maxRecDepth 100000 in
set_option maxHeartbeats 3200000 in
theorem inverses8_c (f : Int) (a : Option Addr) (l : List Int) (cap : Nat) (w : World) (ht : Tab w) (h08 : 0 ≤ f ∧ f ≤ 8) (hn : l.length ≤ 512) (hs : Src w a l.length (lf l)) : Calls Tryd.prog 72 #[.agg #[.int .i64 f, .slice a l.length cap]] w (OwnVec f w (bivL f l)) := by
  have HPW : Hid (∀ (W : World), Below w.heap.size w W → Calls Tryd.prog 118 #[.int .i64 f, .slice a l.length cap] W (OwnG W (bivL f l))) := Lib.hid fun W hb => (inverses_c f a l.length cap (lf l) W (ht.below hb) h08.1 h08.2 (by omega) (hs.keep hb)).mono fun e W' ⟨he, ho, hb2⟩ => by
    rw [he]
    exact OwnG.of_own ho (bivL_len _ _).symm (Nat.le_refl _) (fun j hj => by unfold bivL; rw [lf_tab, if_pos hj]) hb2
  clear hs ht hn
  generalize bivL f l = R at *
  generalize l.length = n at *
  obtain ⟨t0, t1, hb2⟩ := two_start8 w (.int .i64 f) (.slice a n cap) (.int .i64 0) (.slice none 0 0) 56 56
  have HB0 := Lib.hid t0
  have HB1 := Lib.hid t1
  clear t0 t1
  go_enter Tryd.func72, Tryd.ntmps72
  go_wp2_with fail
  generalize ((w.alloc (.cells #[.int .i64 f, .slice a n cap] 56)).alloc (.cells #[.int .i64 0, .slice none 0 0] 56)) = W0 at *
  have k3 := HB0.out.c
  have k3d : TwoC w.heap.size (.int .i64 f) (.slice a n cap) W0.drew := k3.drew
  have c3d : Below w.heap.size w W0.drew := hb2.drew
  have l3d : w.heap.size < W0.drew.heap.size := HB0.out.lt
  have r3d : TwoB (w.heap.size + 1) (.int .i64 0) (.slice none 0 0) 56 W0.drew := HB1.out
  have HPP := Lib.hid (HPW.out _ c3d)
  clear HPW
  go_region_held3 (fun W => W.cell? ⟨w.heap.size, 0, none⟩ = some (.int .i64 f) ∧ W.cell? ⟨w.heap.size, 1, none⟩ = some (.slice a n cap))
    (first | exact k3 | exact k3d | exact k4 | exact k4.store2 _ _ (by omega) | go_keep)
    (first
      | (go_at_call 118; refine HPP.out.mono ?_; rintro e w4 ⟨g4, rfl, hg4, o4, b4⟩; have k4 := k3d.keep b4 l3d; have c4 := below_up c3d b4 c3d.size; have r4 := r3d.keep b4 r3d.lt; have rr0 := r4.c.1; have rr1 := r4.c.2; have rf0 := heap_frozen (j := 0) r4; have rf1 := heap_frozen (j := 1) r4; have ne4 : g4 ≠ w.heap.size + 1 := (by (have := r3d.lt; omega)); have HO4 := Lib.hid o4))
  obtain ⟨e0, e1⟩ := store_cells (u := .int .i64 f) (v := .slice (some ⟨g4, 0, none⟩) R.length R.length) r4
  have HF : Hid (OwnVec f w R (.returned (.agg #[.int .i64 f, .slice (some ⟨g4, 0, none⟩) R.length R.length])) ((w4.setCell ⟨w.heap.size + 1, 0, none⟩ (.int .i64 f)).setCell ⟨w.heap.size + 1, 1, none⟩ (.slice (some ⟨g4, 0, none⟩) R.length R.length))) := Lib.hid ⟨g4, rfl, Nat.le_trans c3d.size hg4, own_store HO4.out ne4, below_store c4 (by omega)⟩
  clear k3 k3d k4 r4 rr0 rr1 rf0 rf1 HO4 c4 c3d b4 r3d
  generalize ((w4.setCell ⟨w.heap.size + 1, 0, none⟩ (.int .i64 f)).setCell ⟨w.heap.size + 1, 1, none⟩ (.slice (some ⟨g4, 0, none⟩) R.length R.length)) = W5 at *
  go_wp2
  refine bodyPost_ret (v := .agg #[.int .i64 f, .slice (some ⟨g4, 0, none⟩) R.length R.length]) (by simp [results, Tryd.results72, go_sem, *]) rfl ?_
  exact HF.out
/-- Two structs' cells. -/
def FourT (s p : Nat) (u v x y : Value) (W : World) : Prop := W.cell? ⟨s, 0, none⟩ = some u ∧ W.cell? ⟨s, 1, none⟩ = some v ∧ W.cell? ⟨p, 0, none⟩ = some x ∧ W.cell? ⟨p, 1, none⟩ = some y
theorem FourT.mk {s p : Nat} {u v x y : Value} {W : World} (h : TwoC s u v W) (k : TwoC p x y W) : FourT s p u v x y W := ⟨h.1, h.2, k.1, k.2⟩
theorem FourT.keep {s p b : Nat} {u v x y : Value} {W W' : World} (k : FourT s p u v x y W) (hb : Below b W W') (h1 : s < b) (h2 : p < b) : FourT s p u v x y W' := by
  have h := TwoC.keep ⟨k.1, k.2.1⟩ hb h1
  have h' := TwoC.keep ⟨k.2.2.1, k.2.2.2⟩ hb h2
  exact ⟨h.1, h.2, h'.1, h'.2⟩
theorem FourT.store2 {s p q : Nat} {u v x y : Value} {W : World} (k : FourT s p u v x y W) (x2 y2 : Value) (h1 : s ≠ q) (h2 : p ≠ q) : FourT s p u v x y ((W.setCell ⟨q, 0, none⟩ x2).setCell ⟨q, 1, none⟩ y2) :=
  ⟨by rw [cell_set8 h1, cell_set8 h1]; exact k.1, by rw [cell_set8 h1, cell_set8 h1]; exact k.2.1, by rw [cell_set8 h2, cell_set8 h2]; exact k.2.2.1, by rw [cell_set8 h2, cell_set8 h2]; exact k.2.2.2⟩
/-- Half way: a third struct is made. -/
def MidV (w wr : World) (p g n cap : Nat) (f : Int) (a : Option Addr) (X : List Int) (t : TypeId) : Prop :=
  TwoC w.heap.size (.int .i64 f) (.slice a n cap) wr ∧ TwoB (w.heap.size + 1) (.int .i64 0) (.slice none 0 0) t wr ∧ TwoC p (.int .i64 f) (.slice (some ⟨g, 0, none⟩) X.length X.length) wr ∧ p < wr.heap.size ∧ w.heap.size + 1 < p ∧ g ≠ w.heap.size + 1 ∧ Own wr g X.length (lf X) ∧ Below w.heap.size w wr
theorem MidV.a {w w2 : World} {g n cap : Nat} {f : Int} {a : Option Addr} {X : List Int} {t t2 : TypeId} (k : TwoC w.heap.size (.int .i64 f) (.slice a n cap) w2) (r : TwoB (w.heap.size + 1) (.int .i64 0) (.slice none 0 0) t w2) (hg : g ≠ w.heap.size + 1) (ho : Own w2 g X.length (lf X)) (hb : Below w.heap.size w w2) :
    MidV w (w2.alloc (.cells #[.int .i64 f, .slice (some ⟨g, 0, none⟩) X.length X.length] t2)) w2.heap.size g n cap f a X t := by
  have hb2 := below_alloc w2 (.cells #[.int .i64 f, .slice (some ⟨g, 0, none⟩) X.length X.length] t2)
  have hr := r.lt
  exact ⟨k.keep hb2 (by omega), r.keep hb2 hr, (twoB_new w2 _ _ t2).c, by simp, hr, hg, ho.keep hb2, below_up hb hb2 hb.size⟩
theorem MidV.b {w w2 : World} {p g n cap : Nat} {f : Int} {a : Option Addr} {X : List Int} {t t2 : TypeId} {x y : Value} (q : TwoB p x y t2 w2) (hp : w.heap.size + 1 < p) (hgp : g ≠ p) (k : TwoC w.heap.size (.int .i64 f) (.slice a n cap) w2) (r : TwoB (w.heap.size + 1) (.int .i64 0) (.slice none 0 0) t w2) (hg : g ≠ w.heap.size + 1) (ho : Own w2 g X.length (lf X)) (hb : Below w.heap.size w w2) :
    MidV w ((w2.setCell ⟨p, 0, none⟩ (.int .i64 f)).setCell ⟨p, 1, none⟩ (.slice (some ⟨g, 0, none⟩) X.length X.length)) p g n cap f a X t :=
  ⟨k.store2 _ _ (by omega), ((Below.heap_setCell _ ⟨p, 1, none⟩ _ _ (by show w.heap.size + 1 ≠ p; omega)).trans (Below.heap_setCell _ ⟨p, 0, none⟩ _ _ (by show w.heap.size + 1 ≠ p; omega))).trans r, store_cells q, by have := q.lt; simpa using this, hp, hg, own_store ho hgp, below_store hb (by omega)⟩
set_option maxRecDepth 100000 in
set_option maxHeartbeats 6400000 in
theorem oddValues_c (f : Int) (a : Option Addr) (l : List Int) (cap : Nat) (w : World) (ht : Tab w) (h : OpenOk f l) (hs : Src w a l.length (lf l)) : Calls Tryd.prog 62 #[.agg #[.int .i64 f, .slice a l.length cap]] w (OwnVec f w (ovL f l)) := by
  have hroot := root_bd h.has.1
  have HSR : Hid (∀ W, Below w.heap.size w W → Calls Tryd.prog 109 #[.agg #[.int .i64 f, .slice a l.length cap]] W (IntP W (zL f l))) := Lib.hid fun W hb => splitRoot_c f a l cap W (ht.below hb) h
  have HWG : Hid (∀ W, Below w.heap.size w W → Calls Tryd.prog 108 #[.agg #[.int .i64 f, .slice a l.length cap], .int .i64 (zL f l)] W (OwnVec f W (ptwL f l (pwL f (zL f l) l.length)))) := Lib.hid fun W hb => weighted_c f (zL f l) a l cap W (ht.below hb) h.1 ⟨by unfold zL; omega, hroot.2⟩ (hs.keep hb)
  have hv : VecOk f (ptwL f l (pwL f (zL f l) l.length)) := h.1.ptw
  have HTR : Hid (∀ g W, Below w.heap.size w W → Own W g (ptwL f l (pwL f (zL f l) l.length)).length (lf (ptwL f l (pwL f (zL f l) l.length))) → Calls Tryd.prog 110 #[.int .i64 f, .slice (some ⟨g, 0, none⟩) (ptwL f l (pwL f (zL f l) l.length)).length (ptwL f l (pwL f (zL f l) l.length)).length] W (OwnG W (ovL f l))) := Lib.hid fun g W hb ho => by
    have := transform_c f (some ⟨g, 0, none⟩) _ (ptwL f l (pwL f (zL f l) l.length)).length W (ht.below hb) hv ho.src
    rwa [ov_by_fwd h] at this
  clear hs h ht hv hroot
  generalize ovL f l = R at *
  generalize ptwL f l (pwL f (zL f l) l.length) = X at *
  generalize zL f l = z at *
  generalize l.length = n at *
  obtain ⟨t0, t1, hb2⟩ := two_start8 w (.int .i64 f) (.slice a n cap) (.int .i64 0) (.slice none 0 0) 58 56
  have HB0 := Lib.hid t0
  have HB1 := Lib.hid t1
  clear t0 t1
  go_enter Tryd.func62, Tryd.ntmps62
  go_wp2_with fail
  generalize ((w.alloc (.cells #[.int .i64 f, .slice a n cap] 58)).alloc (.cells #[.int .i64 0, .slice none 0 0] 56)) = W0 at *
  go_cut [3] from 4 (fun p wr => ∃ p3 g3, p = .pointer (some ⟨p3, 0, none⟩) ∧ MidV w wr p3 g3 n cap f a X 56)
  case first =>
    have kb := HB0.out.c
    have k0 : TwoC w.heap.size (.int .i64 f) (.slice a n cap) W0.drew := kb.drew
    have hbd : Below w.heap.size w W0.drew := hb2.drew
    have r0 : TwoB (w.heap.size + 1) (.int .i64 0) (.slice none 0 0) 56 W0.drew := HB1.out
    have hl0 : w.heap.size + 1 < W0.drew.heap.size := r0.lt
    have hba := below_alloc W0 (.cells #[.int .i64 0, .slice none 0 0] 56)
    have hlb : w.heap.size + 1 < W0.heap.size := HB1.out.lt
    have ka : TwoC w.heap.size (.int .i64 f) (.slice a n cap) (W0.alloc (.cells #[.int .i64 0, .slice none 0 0] 56)).drew := (kb.keep hba (show w.heap.size < W0.heap.size by omega)).drew
    have ra : TwoB (w.heap.size + 1) (.int .i64 0) (.slice none 0 0) 56 (W0.alloc (.cells #[.int .i64 0, .slice none 0 0] 56)).drew := (show TwoB _ _ _ _ (W0.alloc (.cells #[.int .i64 0, .slice none 0 0] 56)) from HB1.out.keep hba hlb)
    have hbda : Below w.heap.size w (W0.alloc (.cells #[.int .i64 0, .slice none 0 0] 56)).drew := (below_up hb2 hba hb2.size).drew
    have hla := ra.lt
    have ya : TwoB W0.heap.size (.int .i64 0) (.slice none 0 0) 56 (W0.alloc (.cells #[.int .i64 0, .slice none 0 0] 56)).drew := (show TwoB W0.heap.size (.int .i64 0) (.slice none 0 0) 56 (W0.alloc (.cells #[.int .i64 0, .slice none 0 0] 56)) from twoB_new W0 (.int .i64 0) (.slice none 0 0) 56)
    have hya := ya.lt
    go_region_held3 (fun W => W.cell? ⟨w.heap.size, 0, none⟩ = some (.int .i64 f) ∧ W.cell? ⟨w.heap.size, 1, none⟩ = some (.slice a n cap))
      (first | exact kb | exact k0 | exact ka | exact k1 | exact k1.keep (below_alloc _ _) (by omega) | exact k2 | exact k2.keep (below_alloc _ _) (by omega) | exact k2.store2 _ _ (by omega) | go_keep)
      (first
        | (go_at_call 109; refine (HSR.out _ (by first | exact hbd | exact hbda)).mono ?_; rintro e w1 ⟨rfl, b1⟩; have k1 : TwoC w.heap.size (.int .i64 f) (.slice a n cap) w1 := (by first | exact k0.keep b1 (by omega) | exact ka.keep b1 (by omega)); have c1 : Below w.heap.size w w1 := (by first | exact below_up hbd b1 hbd.size | exact below_up hbda b1 hbda.size); have r1 : TwoB (w.heap.size + 1) (.int .i64 0) (.slice none 0 0) 56 w1 := (by first | exact r0.keep b1 hl0 | exact ra.keep b1 hla); have l1 := r1.lt; (try have y1 := ya.keep b1 hya))
        | (go_at_call 108; refine (HWG.out _ (by first | exact c1 | exact below_up c1 (below_alloc _ _) c1.size)).mono ?_; rintro e w2 ⟨g2, rfl, hg2, o2, b2⟩; have k2 : TwoC w.heap.size (.int .i64 f) (.slice a n cap) w2 := (by first | exact k1.keep b2 (by omega) | exact (k1.keep (below_alloc _ _) (by omega)).keep b2 (Nat.lt_of_lt_of_le (by omega) (below_alloc _ _).size)); have c2 : Below w.heap.size w w2 := (by first | exact below_up c1 b2 c1.size | exact below_up (below_up c1 (below_alloc _ _) c1.size) b2 (below_up c1 (below_alloc _ _) c1.size).size); have r2 : TwoB (w.heap.size + 1) (.int .i64 0) (.slice none 0 0) 56 w2 := (by first | exact r1.keep b2 (by omega) | exact (r1.keep (below_alloc _ _) (by omega)).keep b2 (Nat.lt_of_lt_of_le (by omega) (below_alloc _ _).size)); have l2 := r2.lt; have ng2 : g2 ≠ w.heap.size + 1 := (by (first | omega | (simp at hg2; omega))); (try have y2 := y1.keep b2 y1.lt); (try have y2 := (twoB_new w1 _ _ _).keep b2 (by simp)); (try have yc0 := y2.c.1); (try have yc1 := y2.c.2); (try have yf0 := heap_frozen (j := 0) y2); (try have yf1 := heap_frozen (j := 1) y2)))
    all_goals
      clear kb k0 ka k1 hbd hbda b1 b2 c1 r1 r0 ra hba
      have HO2 := Lib.hid o2
      have HMA : Hid (∀ (t2 : TypeId), MidV w (w2.alloc (.cells #[.int .i64 f, .slice (some ⟨g2, 0, none⟩) X.length X.length] t2)) w2.heap.size g2 n cap f a X 56) := Lib.hid fun t2 => MidV.a k2 r2 ng2 o2 c2
      (try have yl1 := y1.lt)
      (try have HMB := Lib.hid (MidV.b y2 (by omega) (by first | omega | (simp at hg2; omega)) k2 r2 ng2 o2 c2))
      clear k2 r2 o2 c2
      go_wp2_with fail
      go_meet
    all_goals first | exact ⟨_, g2, rfl, HMA.out _⟩ | exact ⟨_, g2, rfl, HMB.out⟩
  case rest =>
    obtain ⟨p3, g3, rfl, k3, r3, q3, lp3, hp3, hg3, o3, hb3⟩ := hcut
    have kk := FourT.mk k3 q3
    have kkd : FourT w.heap.size p3 (.int .i64 f) (.slice a n cap) (.int .i64 f) (.slice (some ⟨g3, 0, none⟩) X.length X.length) wc.drew := kk
    have c3d : Below w.heap.size w wc.drew := hb3.drew
    have l3d : p3 < wc.drew.heap.size := lp3
    have r3d : TwoB (w.heap.size + 1) (.int .i64 0) (.slice none 0 0) 56 wc.drew := r3
    have HPP := Lib.hid (HTR.out g3 wc.drew c3d o3)
    clear HTR HSR HWG HB0 HB1 hb2 k3 q3 o3
    go_wp2_with fail
    go_region_held3 (fun W => W.cell? ⟨w.heap.size, 0, none⟩ = some (.int .i64 f) ∧ W.cell? ⟨w.heap.size, 1, none⟩ = some (.slice a n cap) ∧ W.cell? ⟨p3, 0, none⟩ = some (.int .i64 f) ∧ W.cell? ⟨p3, 1, none⟩ = some (.slice (some ⟨g3, 0, none⟩) X.length X.length))
      (first | exact kk | exact kkd | exact kk4 | exact kk4.store2 _ _ (by omega) (by omega) | go_keep)
      (first
        | (go_at_call 110; refine HPP.out.mono ?_; rintro e w4 ⟨g4, rfl, hg4, o4, b4⟩; have kk4 := kkd.keep b4 (by omega) l3d; have c4 := below_up c3d b4 c3d.size; have r4 := r3d.keep b4 r3d.lt; have rr0 := r4.c.1; have rr1 := r4.c.2; have rf0 := heap_frozen (j := 0) r4; have rf1 := heap_frozen (j := 1) r4; have ne4 : g4 ≠ w.heap.size + 1 := (by (have := r3d.lt; omega)); have HO4 := Lib.hid o4))
    obtain ⟨e0, e1⟩ := store_cells (u := .int .i64 f) (v := .slice (some ⟨g4, 0, none⟩) R.length R.length) r4
    have HF : Hid (OwnVec f w R (.returned (.agg #[.int .i64 f, .slice (some ⟨g4, 0, none⟩) R.length R.length])) ((w4.setCell ⟨w.heap.size + 1, 0, none⟩ (.int .i64 f)).setCell ⟨w.heap.size + 1, 1, none⟩ (.slice (some ⟨g4, 0, none⟩) R.length R.length))) := Lib.hid ⟨g4, rfl, Nat.le_trans c3d.size hg4, own_store HO4.out ne4, below_store c4 (by omega)⟩
    clear kk kkd kk4 r4 rr0 rr1 rf0 rf1 HO4 c4 c3d b4 r3d r3 hb3
    generalize ((w4.setCell ⟨w.heap.size + 1, 0, none⟩ (.int .i64 f)).setCell ⟨w.heap.size + 1, 1, none⟩ (.slice (some ⟨g4, 0, none⟩) R.length R.length)) = W5 at *
    go_wp2
    refine bodyPost_ret (v := .agg #[.int .i64 f, .slice (some ⟨g4, 0, none⟩) R.length R.length]) (by simp [results, Tryd.results62, go_sem, *]) rfl ?_
    exact HF.out
end Go.Proofs.YtoonpnfhcmghmaaDoor
namespace Go.Proofs.YtoonpnfhcmghmaaDoor
open Go.RowKit
set_option maxRecDepth 100000 in
set_option maxHeartbeats 6400000 in
theorem withOdd_c (f : Int) (a : Option Addr) (l : List Int) (cap : Nat) (w : World) (ht : Tab w) (h : OpenOk f l) (hs : Src w a l.length (lf l)) : Calls Tryd.prog 63 #[.agg #[.int .i64 f, .slice a l.length cap]] w (OwnVec f w (obL f l)) := by
  have hroot := root_bd h.has.1
  have h08 := h.1.f08
  have hz : 0 < zL f l ∧ zL f l < P f := hroot
  have HSR : Hid (∀ W, Below w.heap.size w W → Calls Tryd.prog 109 #[.agg #[.int .i64 f, .slice a l.length cap]] W (IntP W (zL f l))) := Lib.hid fun W hb => splitRoot_c f a l cap W (ht.below hb) h
  have HIV : Hid (∀ W, Below w.heap.size w W → Calls Tryd.prog 112 #[.int .i64 f, .int .i64 (zL f l)] W fun e w' => e = .returned (.int .i64 (zvL f l)) ∧ W = w') := Lib.hid fun W hb => by
    have := inverseL_c f (zL f l) W (ht.below hb) h08.1 h08.2 (by omega) hz.2
    rw [inv_pw h08.1 h08.2 hz.1 hz.2] at this
    exact this
  have HTB : Hid (∀ W, Below w.heap.size w W → Calls Tryd.prog 111 #[.int .i64 f, .slice a l.length cap] W (OwnG W (bwdL f l))) := Lib.hid fun W hb => transformBack_c f a l cap W (ht.below hb) h.1 (hs.keep hb)
  have hzv : 0 < zvL f l ∧ zvL f l < P f := invR_bd h.has.1
  have HWG : Hid (∀ g W, Below w.heap.size w W → Own W g (bwdL f l).length (lf (bwdL f l)) → Calls Tryd.prog 108 #[.agg #[.int .i64 f, .slice (some ⟨g, 0, none⟩) (bwdL f l).length (bwdL f l).length], .int .i64 (zvL f l)] W (OwnVec f W (obL f l))) := Lib.hid fun g W hb ho => by
    have := weighted_c f (zvL f l) (some ⟨g, 0, none⟩) (bwdL f l) (bwdL f l).length W (ht.below hb) h.1.bwd ⟨by omega, hzv.2⟩ ho.src
    rw [bwdL_len, ob_by_bwd h] at this
    rw [bwdL_len]
    exact this
  clear hs h ht hroot hz hzv
  generalize obL f l = R at *
  generalize bwdL f l = X at *
  generalize zL f l = z at *
  generalize zvL f l = zv at *
  generalize l.length = n at *
  obtain ⟨t0, t1, hb2⟩ := two_start8 w (.int .i64 f) (.slice a n cap) (.int .i64 0) (.slice none 0 0) 56 58
  have HB0 := Lib.hid t0
  have HB1 := Lib.hid t1
  clear t0 t1
  go_enter Tryd.func63, Tryd.ntmps63
  go_wp2_with fail
  generalize ((w.alloc (.cells #[.int .i64 f, .slice a n cap] 56)).alloc (.cells #[.int .i64 0, .slice none 0 0] 58)) = W0 at *
  go_cut [3] from 4 (fun p wr => ∃ p3 g3, p = .pointer (some ⟨p3, 0, none⟩) ∧ MidV w wr p3 g3 n cap f a X 58)
  case first =>
    have kb := HB0.out.c
    have k0 : TwoC w.heap.size (.int .i64 f) (.slice a n cap) W0.drew := kb.drew
    have hbd : Below w.heap.size w W0.drew := hb2.drew
    have r0 : TwoB (w.heap.size + 1) (.int .i64 0) (.slice none 0 0) 58 W0.drew := HB1.out
    have hl0 : w.heap.size + 1 < W0.drew.heap.size := r0.lt
    have hba := below_alloc W0 (.cells #[.int .i64 0, .slice none 0 0] 56)
    have hlb : w.heap.size + 1 < W0.heap.size := HB1.out.lt
    have ka : TwoC w.heap.size (.int .i64 f) (.slice a n cap) (W0.alloc (.cells #[.int .i64 0, .slice none 0 0] 56)).drew := (kb.keep hba (show w.heap.size < W0.heap.size by omega)).drew
    have ra : TwoB (w.heap.size + 1) (.int .i64 0) (.slice none 0 0) 58 (W0.alloc (.cells #[.int .i64 0, .slice none 0 0] 56)).drew := (show TwoB _ _ _ _ (W0.alloc (.cells #[.int .i64 0, .slice none 0 0] 56)) from HB1.out.keep hba hlb)
    have hbda : Below w.heap.size w (W0.alloc (.cells #[.int .i64 0, .slice none 0 0] 56)).drew := (below_up hb2 hba hb2.size).drew
    have hla := ra.lt
    have ya : TwoB W0.heap.size (.int .i64 0) (.slice none 0 0) 56 (W0.alloc (.cells #[.int .i64 0, .slice none 0 0] 56)).drew := (show TwoB W0.heap.size (.int .i64 0) (.slice none 0 0) 56 (W0.alloc (.cells #[.int .i64 0, .slice none 0 0] 56)) from twoB_new W0 (.int .i64 0) (.slice none 0 0) 56)
    have hya := ya.lt
    go_region_held3 (fun W => W.cell? ⟨w.heap.size, 0, none⟩ = some (.int .i64 f) ∧ W.cell? ⟨w.heap.size, 1, none⟩ = some (.slice a n cap))
      (first | exact kb | exact k0 | exact ka | exact k2 | exact k2.keep (below_alloc _ _) (by omega) | exact k2.store2 _ _ (by omega) | go_keep)
      (first
        | (go_at_call 111; refine (HTB.out _ (by first | exact hbd | exact hbda)).mono ?_; rintro e w2 ⟨g2, rfl, hg2, o2, b2⟩; have k2 : TwoC w.heap.size (.int .i64 f) (.slice a n cap) w2 := (by first | exact k0.keep b2 (by omega) | exact ka.keep b2 (by omega)); have c2 : Below w.heap.size w w2 := (by first | exact below_up hbd b2 hbd.size | exact below_up hbda b2 hbda.size); have r2 : TwoB (w.heap.size + 1) (.int .i64 0) (.slice none 0 0) 58 w2 := (by first | exact r0.keep b2 hl0 | exact ra.keep b2 hla); have l2 := r2.lt; have ng2 : g2 ≠ w.heap.size + 1 := (by omega); (try have y2 := ya.keep b2 hya); (try have yg2 : g2 ≠ W0.heap.size := Nat.ne_of_gt (Nat.lt_of_lt_of_le hya hg2)); (try have yc0 := y2.c.1); (try have yc1 := y2.c.2); (try have yf0 := heap_frozen (j := 0) y2); (try have yf1 := heap_frozen (j := 1) y2)))
    all_goals
      clear kb k0 ka hbd hbda b2 r0 ra hba
      have HO2 := Lib.hid o2
      have HMA : Hid (∀ (t2 : TypeId), MidV w (w2.alloc (.cells #[.int .i64 f, .slice (some ⟨g2, 0, none⟩) X.length X.length] t2)) w2.heap.size g2 n cap f a X 58) := Lib.hid fun t2 => MidV.a k2 r2 ng2 o2 c2
      (try have HMB := Lib.hid (MidV.b y2 (by omega) yg2 k2 r2 ng2 o2 c2))
      clear k2 r2 o2 c2
      go_wp2_with fail
      go_meet
    all_goals first | exact ⟨_, g2, rfl, HMA.out _⟩ | exact ⟨_, g2, rfl, HMB.out⟩
  case rest =>
    obtain ⟨p3, g3, rfl, k3, r3, q3, lp3, hp3, hg3, o3, hb3⟩ := hcut
    have kk := FourT.mk k3 q3
    have kkd : FourT w.heap.size p3 (.int .i64 f) (.slice a n cap) (.int .i64 f) (.slice (some ⟨g3, 0, none⟩) X.length X.length) wc.drew := kk
    have c3d : Below w.heap.size w wc.drew := hb3.drew
    have l3d : p3 < wc.drew.heap.size := lp3
    have r3d : TwoB (w.heap.size + 1) (.int .i64 0) (.slice none 0 0) 58 wc.drew := r3
    have o3d : Own wc.drew g3 X.length (lf X) := o3
    clear HTB HB0 HB1 hb2 k3 q3
    go_wp2_with fail
    go_region_held3 (fun W => W.cell? ⟨w.heap.size, 0, none⟩ = some (.int .i64 f) ∧ W.cell? ⟨w.heap.size, 1, none⟩ = some (.slice a n cap) ∧ W.cell? ⟨p3, 0, none⟩ = some (.int .i64 f) ∧ W.cell? ⟨p3, 1, none⟩ = some (.slice (some ⟨g3, 0, none⟩) X.length X.length))
      (first | exact kk | exact kkd | exact kk1 | exact kk4 | exact kk4.store2 _ _ (by omega) (by omega) | go_keep)
      (first
        | (go_at_call 109; refine (HSR.out _ c3d).mono ?_; rintro e w1 ⟨rfl, b1⟩; have kk1 := kkd.keep b1 (by omega) l3d; have c1 := below_up c3d b1 c3d.size; have r1 := r3d.keep b1 r3d.lt; have o1 := o3d.keep b1; have l1 : p3 < w1.heap.size := (by (have := b1.size; omega)))
        | (go_at_call 112; refine (HIV.out _ c1).mono ?_; rintro e w' ⟨rfl, rfl⟩)
        | (go_at_call 108; refine (HWG.out g3 _ c1 o1).mono ?_; rintro e w4 ⟨g4, rfl, hg4, o4, b4⟩; have kk4 := kk1.keep b4 (by omega) l1; have c4 := below_up c1 b4 c1.size; have r4 := r1.keep b4 r1.lt; have rr0 := r4.c.1; have rr1 := r4.c.2; have rf0 := heap_frozen (j := 0) r4; have rf1 := heap_frozen (j := 1) r4; have ne4 : g4 ≠ w.heap.size + 1 := (by (have := r1.lt; omega)); have HO4 := Lib.hid o4))
    obtain ⟨e0, e1⟩ := store_cells (u := .int .i64 f) (v := .slice (some ⟨g4, 0, none⟩) R.length R.length) r4
    have HF : Hid (OwnVec f w R (.returned (.agg #[.int .i64 f, .slice (some ⟨g4, 0, none⟩) R.length R.length])) ((w4.setCell ⟨w.heap.size + 1, 0, none⟩ (.int .i64 f)).setCell ⟨w.heap.size + 1, 1, none⟩ (.slice (some ⟨g4, 0, none⟩) R.length R.length))) := Lib.hid ⟨g4, rfl, Nat.le_trans c1.size hg4, own_store HO4.out ne4, below_store c4 (by omega)⟩
    clear kk kkd kk1 kk4 r4 rr0 rr1 rf0 rf1 HO4 c4 c3d c1 b4 b1 r3d r3 r1 hb3 o1 o3 o3d HSR HIV HWG
    generalize ((w4.setCell ⟨w.heap.size + 1, 0, none⟩ (.int .i64 f)).setCell ⟨w.heap.size + 1, 1, none⟩ (.slice (some ⟨g4, 0, none⟩) R.length R.length)) = W5 at *
    go_wp2
    refine bodyPost_ret (v := .agg #[.int .i64 f, .slice (some ⟨g4, 0, none⟩) R.length R.length]) (by simp [results, Tryd.results63, go_sem, *]) rfl ?_
    exact HF.out
theorem field_el (f : Int) (a : Option Addr) (n c : Nat) (w : World) : (Instr.field 56 (.agg #[.int .i64 f, .slice a n c]) 1).run Tryd.prog w = .ok (.slice a n c) w := by kernel_rfl
theorem field_vec (f : Int) (a : Option Addr) (n c : Nat) (w : World) : (Instr.field 58 (.agg #[.int .i64 f, .slice a n c]) 0).run Tryd.prog w = .ok (.agg #[.int .i64 f, .slice a n c]) w := by kernel_rfl
theorem isSplit_c (f : Int) (a : Option Addr) (l : List Int) (cap : Nat) (w : World) (hn : l.length ≤ 1048576) (hs : Src w a l.length (lf l)) (ht : Tab w) : Calls Tryd.prog 61 #[.int .i64 f, .slice a l.length cap] w (SameB w (mOpen f l)) := by
  have hV := iVectorOk f a l cap w hn hs ht
  by_cases h : VecOk f l
  · rw [vok_iff.2 h] at hV
    have HV := Lib.hid hV
    have h9 : 0 ≤ mLog l.length ∧ mLog l.length ≤ 9 := by
      obtain ⟨k, hk, _, hl, _⟩ := h.log
      omega
    have qL : IntKind.i64.wrap (mLog l.length + 1) = mLog l.length + 1 := IntWalk.i64_in _ (by omega)
    by_cases hT : mLog l.length + 1 ≤ T f
    · rw [open_iff.2 ⟨h, hT⟩]
      have HR := Lib.hid (hasRoot_yes f (mLog l.length + 1) w ht ((hasK_iff _ _).2 ⟨by omega, hT⟩))
      clear hs h hV
      go_enter Tryd.func61, Tryd.ntmps61
      go_wp2_with fail
      refine HV.out.mono ?_
      rintro e w' ⟨rfl, rfl⟩
      go_wp2_with fail
      refine (iLogOf l.length w).mono ?_
      rintro e w' ⟨rfl, rfl⟩
      generalize mLog l.length = L at *
      go_wp2_with fail
      refine HR.out.mono ?_
      rintro e w' ⟨rfl, rfl⟩
      go_wp2
      go_ret
      exact ⟨rfl, rfl⟩
    · rw [open_not.2 fun x => hT x.2]
      have HR := Lib.hid (hasRoot_no f (mLog l.length + 1) w ht (fun x => hT ((hasK_iff _ _).1 x).2))
      clear hs h hV
      go_enter Tryd.func61, Tryd.ntmps61
      go_wp2_with fail
      refine HV.out.mono ?_
      rintro e w' ⟨rfl, rfl⟩
      go_wp2_with fail
      refine (iLogOf l.length w).mono ?_
      rintro e w' ⟨rfl, rfl⟩
      generalize mLog l.length = L at *
      go_wp2_with fail
      refine HR.out.mono ?_
      rintro e w' ⟨rfl, rfl⟩
      go_wp2
      go_ret
      exact ⟨rfl, rfl⟩
  · rw [vok_not.2 h] at hV
    have HV := Lib.hid hV
    rw [open_not.2 fun x => h x.1]
    clear hs h hV
    go_enter Tryd.func61, Tryd.ntmps61
    go_wp2_with fail
    refine HV.out.mono ?_
    rintro e w' ⟨rfl, rfl⟩
    go_wp2
    go_ret
    exact ⟨rfl, rfl⟩
theorem OwnVec.to {f : Int} {u w w' : World} {l : List Int} {e : Ending} (h : OwnVec f w l e w') (hb : Below u.heap.size u w) : ∃ g, e = .returned (.agg #[.int .i64 f, .slice (some ⟨g, 0, none⟩) l.length l.length]) ∧ OwnL u l (.returned (.slice (some ⟨g, 0, none⟩) l.length l.length)) w' := by
  obtain ⟨g, he, hg, ho, hb2⟩ := h
  exact ⟨g, he, OwnG.own ⟨g, rfl, Nat.le_trans hb.size hg, ho, below_up hb hb2 hb.size⟩⟩
theorem nil_own (w : World) : OwnL w [] (.returned (.slice none 0 0)) w := ⟨none, 0, rfl, OwnA.nil rfl, Below.refl _ _⟩
set_option maxRecDepth 100000 in
set_option maxHeartbeats 1600000 in
theorem iRingInverse (f : Int) (a : Option Addr) (l : List Int) (cap : Nat) (w : World) (hn : l.length ≤ 1048576) (hs : Src w a l.length (lf l)) (ht : Tab w) : Calls Tryd.prog 32 #[.int .i64 f, .slice a l.length cap] w (OwnLB w (mRingInverse0 f l) (mRingInverse1 f l)) := by
  have hV := isSplit_c f a l cap w hn hs ht
  by_cases h : OpenOk f l
  · rw [open_iff.2 h] at hV
    have HV := Lib.hid hV
    have hov := h.1.ov
    have h08 := h.1.f08
    have h5 := hov.pos.2
    have HO : Hid (∀ W, Below w.heap.size w W → Calls Tryd.prog 62 #[.agg #[.int .i64 f, .slice a l.length cap]] W (OwnVec f W (ovL f l))) := Lib.hid fun W hb => oddValues_c f a l cap W (ht.below hb) h (hs.keep hb)
    have HP : Hid (∀ g W, Below w.heap.size w W → Own W g (ovL f l).length (lf (ovL f l)) → Calls Tryd.prog 65 #[.agg #[.int .i64 f, .slice (some ⟨g, 0, none⟩) (ovL f l).length (ovL f l).length]] W (IntP W (nmL f l))) := Lib.hid fun g W hb ho => by
      have := product8_c f (some ⟨g, 0, none⟩) _ (ovL f l).length (lf (ovL f l)) W (ht.below hb) h08 (fun j _ => hov.lt j) h5 ho.src
      unfold nmL
      rwa [show prF f (lf (ovL f l)) (ovL f l).length = prF f (lf (ovL f l)) l.length by rw [ovL_len]] at this
    have HI : Hid (∀ g W, Below w.heap.size w W → Own W g (ovL f l).length (lf (ovL f l)) → Calls Tryd.prog 72 #[.agg #[.int .i64 f, .slice (some ⟨g, 0, none⟩) (ovL f l).length (ovL f l).length]] W (OwnVec f W (bivL f (ovL f l)))) := Lib.hid fun g W hb ho => inverses8_c f (some ⟨g, 0, none⟩) (ovL f l) _ W (ht.below hb) h08 h5 ho.src
    have hbo := h.to hov.biv ((bivL_len _ _).trans (ovL_len _ _))
    have HK : Hid (∀ g W, Below w.heap.size w W → Own W g (bivL f (ovL f l)).length (lf (bivL f (ovL f l))) → Calls Tryd.prog 63 #[.agg #[.int .i64 f, .slice (some ⟨g, 0, none⟩) (bivL f (ovL f l)).length (bivL f (ovL f l)).length]] W (OwnVec f W (obL f (bivL f (ovL f l))))) := Lib.hid fun g W hb ho => withOdd_c f (some ⟨g, 0, none⟩) (bivL f (ovL f l)) _ W (ht.below hb) hbo ho.src
    by_cases hz : nmL f l = 0
    · have h0 : mRingInverse0 f l = [] := by unfold mRingInverse0; rw [if_neg fun x => x.2 hz]
      have h1 : mRingInverse1 f l = false := by simp only [mRingInverse1, decide_eq_false_iff_not]; exact fun x => x.2 hz
      rw [h0, h1]
      rw [hz] at HP
      clear hs h hV hov h5 hbo hz h0 h1 HI HK
      generalize ovL f l = R at *
      have hfe := field_el
      have hfv := field_vec
      go_enter Tryd.func32, Tryd.ntmps32
      go_wp2_with fail
      refine HV.out.mono ?_
      rintro e w' ⟨rfl, rfl⟩
      go_wp2_with fail
      refine (ringOf_c f a l.length cap w).mono ?_
      rintro e w1 ⟨rfl, b1⟩
      go_wp2_with fail
      refine (HO.out w1 b1).mono ?_
      rintro e w2 ⟨g, rfl, hg, o2, b2⟩
      have c2 := below_up b1 b2 b1.size
      have b3 := below_alloc w2 (.cells #[.int .i64 f, .slice (some ⟨g, 0, none⟩) R.length R.length] 56)
      have c3 := below_up c2 b3 c2.size
      have HPP := Lib.hid (HP.out g _ c3 (o2.keep b3))
      clear o2 HV HO HP b1 b2 b3
      go_wp2_with fail
      refine HPP.out.mono ?_
      rintro e w3 ⟨rfl, b3⟩
      have c4 := below_up c3 b3 c3.size
      go_wp2
      go_ret2
      exact ⟨none, 0, rfl, OwnA.nil rfl, c4⟩
    · have h0 : mRingInverse0 f l = obL f (bivL f (ovL f l)) := by unfold mRingInverse0; rw [if_pos ⟨h, hz⟩]
      have h1 : mRingInverse1 f l = true := by simp only [mRingInverse1, decide_eq_true_eq]; exact ⟨h, hz⟩
      rw [h0, h1]
      have hz2 : (nmL f l == 0) = false := by rw [beq_eq_false_iff_ne]; exact hz
      clear hs h hV hov h5 hbo h0 h1
      generalize obL f (bivL f (ovL f l)) = K at *
      generalize bivL f (ovL f l) = I at *
      generalize ovL f l = R at *
      generalize nmL f l = N at *
      have hfe := field_el
      have hfv := field_vec
      go_enter Tryd.func32, Tryd.ntmps32
      go_wp2_with fail
      refine HV.out.mono ?_
      rintro e w' ⟨rfl, rfl⟩
      go_wp2_with fail
      refine (ringOf_c f a l.length cap w).mono ?_
      rintro e w1 ⟨rfl, b1⟩
      go_wp2_with fail
      refine (HO.out w1 b1).mono ?_
      rintro e w2 ⟨g, rfl, hg, o2, b2⟩
      have c2 := below_up b1 b2 b1.size
      have b3 := below_alloc w2 (.cells #[.int .i64 f, .slice (some ⟨g, 0, none⟩) R.length R.length] 56)
      have c3 := below_up c2 b3 c2.size
      have o3 := o2.keep b3
      have t3 := twoB_new w2 (.int .i64 f) (.slice (some ⟨g, 0, none⟩) R.length R.length) 56
      have HPP := Lib.hid (HP.out g _ c3 o3)
      clear o2 HV HO HP b1 b2 b3
      go_wp2_with fail
      generalize w2.alloc (.cells #[.int .i64 f, .slice (some ⟨g, 0, none⟩) R.length R.length] 56) = W3 at *
      refine HPP.out.mono ?_
      rintro e w3 ⟨rfl, b3⟩
      have c4 := below_up c3 b3 c3.size
      have t4 := t3.keep b3 t3.lt
      obtain ⟨t40, t41⟩ := t4.c
      have HII := Lib.hid (HI.out g w3 c4 (o3.keep b3))
      clear o3 b3 t3 HPP
      go_wp2_with fail
      refine HII.out.mono ?_
      rintro e w4 ⟨g4, rfl, hg4, o4, b4⟩
      have c5 := below_up c4 b4 c4.size
      have HKK := Lib.hid (HK.out g4 w4 c5 o4)
      clear o4 b4 HII HI t40 t41 t4
      go_wp2_with fail
      refine HKK.out.mono ?_
      rintro e w5 h5
      obtain ⟨g5, rfl, h6⟩ := h5.to c5
      obtain ⟨a6, c6, he6, o6, b6⟩ := h6
      cases he6
      have HF : Hid (OwnLB w K true (.returned (.tuple #[.slice (some ⟨g5, 0, none⟩) K.length K.length, .bool true])) w5) := Lib.hid ⟨_, _, rfl, o6, b6⟩
      clear o6 b6 h5 HKK HK
      go_wp2
      go_ret2
      exact HF.out
  · rw [open_not.2 h] at hV
    have HV := Lib.hid hV
    have h0 : mRingInverse0 f l = [] := by unfold mRingInverse0; rw [if_neg fun x => h x.1]
    have h1 : mRingInverse1 f l = false := by simp only [mRingInverse1, decide_eq_false_iff_not]; exact fun x => h x.1
    rw [h0, h1]
    clear hs h hV h0 h1
    have hfe := field_el
    have hfv := field_vec
    go_enter Tryd.func32, Tryd.ntmps32
    go_wp2_with fail
    refine HV.out.mono ?_
    rintro e w' ⟨rfl, rfl⟩
    go_wp2
    go_ret2
    exact ⟨none, 0, rfl, OwnA.nil rfl, Below.refl _ _⟩
end Go.Proofs.YtoonpnfhcmghmaaDoor
namespace Go.Proofs.YtoonpnfhcmghmaaDoor
open Go.RowKit
theorem odd_tmod {g : Int} : g.tmod 2 = 0 ↔ g % 2 = 0 :=
  ⟨fun h => Int.emod_eq_zero_of_dvd (Int.dvd_of_tmod_eq_zero h), fun h => Int.tmod_eq_zero_of_dvd (Int.dvd_of_emod_eq_zero h)⟩
theorem emod_le8 {x m : Int} (h : 0 ≤ x) (hm : 0 < m) : x % m ≤ x := by
  have h1 := Int.emod_add_mul_ediv x m
  have h2 := Int.mul_nonneg (Int.le_of_lt hm) (Int.ediv_nonneg h (Int.le_of_lt hm))
  omega
theorem resc_num {f x b E Q : Int} (h0 : 0 ≤ f) (h8 : f ≤ 8) (hx : 0 ≤ x ∧ x < P f) (hb : 1 ≤ b ∧ b ≤ P f) (hE : cenF f x = E) (hQ : (2 * E + b).tdiv (2 * b) = Q) :
    (-4000000000 ≤ Q ∧ Q ≤ 4000000000) ∧ (-4000000000 ≤ 2 * Q * b ∧ 2 * Q * b ≤ 4000000000) ∧ (2 * E + b < 2 * Q * b → rsF f b x = RS (Q - 1) (P f)) ∧ (¬ (2 * E + b < 2 * Q * b) → rsF f b x = RS Q (P f)) := by
  have hp := P_bd h0 h8
  obtain ⟨c1, c2, _⟩ := cen_bd h0 h8 hx
  have hf := floor_spec (a := 2 * E + b) (m := 2 * b) (by omega)
  unfold rsF
  rw [hE] at c1 c2 ⊢
  rw [hQ] at hf
  have h1 := Int.mul_tdiv_add_tmod (2 * E + b) (2 * b)
  rw [hQ] at h1
  have e1 : 2 * Q * b = 2 * b * Q := by rw [Int.mul_assoc, Int.mul_comm Q b, ← Int.mul_assoc]
  have e2 : Q * (2 * b) = 2 * b * Q := Int.mul_comm _ _
  rw [e1]
  rw [e2] at hf
  have hs : (0 ≤ 2 * E + b → 0 ≤ (2 * E + b).tmod (2 * b) ∧ (2 * E + b).tmod (2 * b) ≤ 2 * E + b) ∧ (2 * E + b ≤ 0 → (2 * E + b).tmod (2 * b) ≤ 0 ∧ 2 * E + b ≤ (2 * E + b).tmod (2 * b)) := by
    refine ⟨fun h => ?_, fun h => ?_⟩
    · rw [Int.tmod_eq_emod_of_nonneg h]
      exact ⟨Int.emod_nonneg _ (by omega), emod_le8 h (by omega)⟩
    · have e : (2 * E + b).tmod (2 * b) = - ((-(2 * E + b)).tmod (2 * b)) := by rw [Int.neg_tmod, Int.neg_neg]
      rw [e, Int.tmod_eq_emod_of_nonneg (by omega)]
      have h3 := Int.emod_nonneg (-(2 * E + b)) (b := 2 * b) (by omega)
      have h4 : (-(2 * E + b)) % (2 * b) ≤ -(2 * E + b) := emod_le8 (by omega) (by omega)
      omega
  generalize (2 * E + b).tmod (2 * b) = T at *
  have hbd : -4000000000 ≤ 2 * b * Q ∧ 2 * b * Q ≤ 4000000000 := by omega
  refine ⟨?_, hbd, fun h => ?_, fun h => ?_⟩
  · have g1 : 2 * b * Q = 2 * (b * Q) := Int.mul_assoc _ _ _
    by_cases hq : 0 ≤ Q
    · have := Int.mul_le_mul_of_nonneg_right hb.1 hq
      omega
    · have := Int.mul_le_mul_of_nonpos_right hb.1 (show Q ≤ 0 by omega)
      omega
  · rw [if_pos h] at hf
    rw [← hf]
  · rw [if_neg h] at hf
    rw [← hf]
set_option maxRecDepth 100000 in
set_option maxHeartbeats 3200000 in
theorem sRescale_on (f bb : Int) (a : Option Addr) (l : List Int) (cap : Nat) (w : World) (hn : l.length ≤ 1048576) (hs : Src w a l.length (lf l)) (h : VecOk f l) (hb : 1 ≤ bb ∧ bb ≤ P f) : Calls Tryd.prog 42 #[.int .i64 f, .slice a l.length cap, .int .i64 bb] w (ListLB w (rscL f l bb) true) := by
  obtain ⟨i0, hi, hz0, hz1, hz2⟩ := info_parts info3
  have HI := Lib.hid hi
  have HZ0 := Lib.hid hz0
  have HZ1 := Lib.hid hz1
  have HZ2 := Lib.hid hz2
  clear hi hz0 hz1 hz2
  have BA : Hid (∀ o, Below w.heap.size w (w.alloc o)) := Lib.hid fun o => (Below.refl _ _).alloc (Nat.le_refl _) o
  have HV : Hid (∀ w2, Below w.heap.size w w2 → Calls Tryd.prog 14 #[.int .i64 f, .slice a l.length cap] w2 (SameB w2 true)) := Lib.hid fun w2 hb => by
    have R1 := sVectorOk f a l cap w2 hn (hs.keep hb)
    rwa [vok_iff.2 h] at R1
  have HIN : Hid (∀ w2, Calls Tryd.prog 77 #[.int .i64 bb, .int .i64 1, .int .i64 (P f)] w2 fun e w' => e = .returned (.bool true) ∧ w2 = w') := Lib.hid fun w2 => in_yes bb 1 (P f) w2 hb.1 hb.2
  have hn0 := h.pos.1
  have hn5 := h.pos.2
  have h08 := h.f08
  have hp := P_bd h08.1 h08.2
  have HA := Lib.hid h.lt
  obtain ⟨b, off, rfl, hlt, hc⟩ := vec_some hs hn0
  have HC := Lib.hid hc
  have HF : Hid (∀ v W, W.ownsRow w.heap.size 3 1 v l.length (xsF (fun i => rsF f bb (lf l i)) l.length) → Below w.heap.size w W → ListLB w (rscL f l bb) true (.returned (.tuple #[v, .bool true])) W) := Lib.hid fun v W ho hb => by
    obtain ⟨a2, c2, he, hs2, hb2⟩ := (owns_to (w := w) (l := rscL f l bb) ho (rscL_len _ _ _).symm (fun j hj => by unfold rscL; rw [lf_tab, if_pos hj]) hb).list
    cases he
    exact ⟨a2, c2, rfl, hs2, hb2⟩
  have HRN : Hid (∀ j E Q, cenF f (lf l j) = E → (2 * E + bb).tdiv (2 * bb) = Q → (-4000000000 ≤ Q ∧ Q ≤ 4000000000) ∧ (-4000000000 ≤ 2 * Q * bb ∧ 2 * Q * bb ≤ 4000000000) ∧ (2 * E + bb < 2 * Q * bb → rsF f bb (lf l j) = RS (Q - 1) (P f)) ∧ (¬ (2 * E + bb < 2 * Q * bb) → rsF f bb (lf l j) = RS Q (P f))) := Lib.hid fun j E Q hE hQ => resc_num h08.1 h08.2 (h.lt j) hb hE hQ
  have HCE : Hid (∀ j, (P f - lf l j < lf l j → cenF f (lf l j) = lf l j - P f) ∧ (¬ P f - lf l j < lf l j → cenF f (lf l j) = lf l j)) := Lib.hid fun j => ⟨fun h => if_pos h, fun h => if_neg h⟩
  have HX := Lib.hid (xsF_succ (fun i => rsF f bb (lf l i)))
  have HRD : Hid (∀ q, mReduce f q = RS q (P f)) := Lib.hid fun q => by unfold mReduce; rw [if_pos h08]
  clear hs hc h
  generalize rscL f l bb = OL at *
  generalize lf l = A at *
  generalize l.length = n at *
  have kz : ((2 * bb) == 0) = false := by rw [beq_eq_false_iff_ne]; omega
  have kz2 : ¬ (2 * bb) = 0 := by omega
  go_enter Tryd.func42, Tryd.ntmps42
  go_wp2_with fail
  refine (sModulus f _).mono ?_
  rintro e w' ⟨rfl, rfl⟩
  go_wp2_with fail
  refine (HV.out _ (BA.out _)).mono ?_
  rintro e w' ⟨rfl, rfl⟩
  go_wp2_with fail
  refine (HIN.out _).mono ?_
  rintro e w' ⟨rfl, rfl⟩
  clear HV HIN
  go_wp2_with fail
  go_loopw [8, 10, 11, 12] (fun v i _ _ wr => ∃ k : Nat, i = .int .i64 k ∧ k ≤ n ∧ wr.ownsRow w.heap.size 3 1 v k (xsF (fun i => rsF f bb (A i)) k) ∧ Below w.heap.size w wr) (fun _ i _ _ _ => n - (intOf i).toNat)
  case atStart => exact ⟨0, rfl, Nat.zero_le _, own_empty w _, BA.out _⟩
  case round =>
    obtain ⟨k, rfl, hk, hown, hnx⟩ := hrel
    have hs := hnx.size
    by_cases h1 : k < n
    · have hd1 : decide ((k : Int) < n) = true := decide_eq_true (by omega)
      have c1 : wr.cell? ⟨b, off + k, none⟩ = some (.int .i64 (A k)) := (hnx.cell (p := ⟨b, off + k, none⟩) hlt).trans (HC.out k h1)
      have hA := HA.out k
      have hR := HRN.out k
      have hE := HCE.out k
      have HK : Hid (∀ (w' : World) (v' : Value) (q : Int), q = rsF f bb (A k) → w'.ownsRow w.heap.size 3 1 v' (k + 1) (xsF (fun i => rsF f bb (A i)) k ++ [.int .i64 q]) → w'.ownsRow w.heap.size 3 1 v' (k + 1) (xsF (fun i => rsF f bb (A i)) (k + 1))) := Lib.hid fun w' v' q hq h => by rw [← HX.out k, ← hq]; exact h
      generalize xsF (fun i => rsF f bb (A i)) k = XS at *
      generalize hr : rsF f bb (A k) = R at *
      clear hr
      generalize A k = x at *
      by_cases hx : P f - x < x
      · have hdx : decide (P f - x < x) = true := decide_eq_true hx
        obtain ⟨Q, hQ⟩ : ∃ Q, (2 * (x - P f) + bb).tdiv (2 * bb) = Q := ⟨_, rfl⟩
        obtain ⟨r1, r2, r3, r4⟩ := hR _ Q (hE.1 hx) hQ
        have qz : IntKind.i64.wrap (2 * Q * bb) = 2 * Q * bb := IntWalk.i64_in _ (by omega)
        by_cases hz : 2 * (x - P f) + bb < 2 * Q * bb
        · have hdz : decide (2 * (x - P f) + bb < 2 * Q * bb) = true := decide_eq_true hz
          have HRR := Lib.hid (r3 hz)
          clear hR hE r3 r4
          go_wp2_with fail
          refine (sReduce f (Q - 1) wr).mono ?_
          rintro e w' ⟨rfl, rfl⟩
          rw [HRD.out, ← HRR.out]
          go_wp2_with (at_builtin; refine wpList_append_own _ rfl _ _ 24 rfl w.heap.size 3 i0 (.int .i64 0) 1 8 Tryd.underlying24 HI.out HZ0.out HZ1.out HZ2.out rfl (by decide) _ _ _ rfl (hown.alloc _) ⟨wr.heap.size, 0, none⟩ 1 1 [.int .i64 R] rfl rfl ?c1 ?c2 ?c3 ?c4 ?c5 ?_)
          case c1 => exact cell_one_new _ _ _
          case c2 => first | rfl | (intro u hu; simp at hu; subst hu; rfl)
          case c3 => unfold maxLen; omega
          case c4 => omega
          case c5 => first | omega | (simp; omega)
          intro v' w1 hown' hgrow _
          have hbel : Below w.heap.size w w1 := (hnx.alloc hs _).grown hgrow (by simp; omega) (own_ge hown)
          have hown2 := HK.out w1 v' R rfl hown'
          clear hgrow hown hown' HK
          go_wp2
          go_roundw
          case rel => exact ⟨k + 1, by go_num, by omega, hown2, hbel⟩
          case measure => simp [intOf]; omega
        · have hdz : decide (2 * (x - P f) + bb < 2 * Q * bb) = false := decide_eq_false hz
          have HRR := Lib.hid (r4 (by omega))
          clear hR hE r3 r4
          go_wp2_with fail
          refine (sReduce f Q wr).mono ?_
          rintro e w' ⟨rfl, rfl⟩
          rw [HRD.out, ← HRR.out]
          go_wp2_with (at_builtin; refine wpList_append_own _ rfl _ _ 24 rfl w.heap.size 3 i0 (.int .i64 0) 1 8 Tryd.underlying24 HI.out HZ0.out HZ1.out HZ2.out rfl (by decide) _ _ _ rfl (hown.alloc _) ⟨wr.heap.size, 0, none⟩ 1 1 [.int .i64 R] rfl rfl ?c1 ?c2 ?c3 ?c4 ?c5 ?_)
          case c1 => exact cell_one_new _ _ _
          case c2 => first | rfl | (intro u hu; simp at hu; subst hu; rfl)
          case c3 => unfold maxLen; omega
          case c4 => omega
          case c5 => first | omega | (simp; omega)
          intro v' w1 hown' hgrow _
          have hbel : Below w.heap.size w w1 := (hnx.alloc hs _).grown hgrow (by simp; omega) (own_ge hown)
          have hown2 := HK.out w1 v' R rfl hown'
          clear hgrow hown hown' HK
          go_wp2
          go_roundw
          case rel => exact ⟨k + 1, by go_num, by omega, hown2, hbel⟩
          case measure => simp [intOf]; omega
      · have hdx : decide (P f - x < x) = false := decide_eq_false hx
        obtain ⟨Q, hQ⟩ : ∃ Q, (2 * x + bb).tdiv (2 * bb) = Q := ⟨_, rfl⟩
        obtain ⟨r1, r2, r3, r4⟩ := hR _ Q (hE.2 (by omega)) hQ
        have qz : IntKind.i64.wrap (2 * Q * bb) = 2 * Q * bb := IntWalk.i64_in _ (by omega)
        by_cases hz : 2 * x + bb < 2 * Q * bb
        · have hdz : decide (2 * x + bb < 2 * Q * bb) = true := decide_eq_true hz
          have HRR := Lib.hid (r3 hz)
          clear hR hE r3 r4
          go_wp2_with fail
          refine (sReduce f (Q - 1) wr).mono ?_
          rintro e w' ⟨rfl, rfl⟩
          rw [HRD.out, ← HRR.out]
          go_wp2_with (at_builtin; refine wpList_append_own _ rfl _ _ 24 rfl w.heap.size 3 i0 (.int .i64 0) 1 8 Tryd.underlying24 HI.out HZ0.out HZ1.out HZ2.out rfl (by decide) _ _ _ rfl (hown.alloc _) ⟨wr.heap.size, 0, none⟩ 1 1 [.int .i64 R] rfl rfl ?c1 ?c2 ?c3 ?c4 ?c5 ?_)
          case c1 => exact cell_one_new _ _ _
          case c2 => first | rfl | (intro u hu; simp at hu; subst hu; rfl)
          case c3 => unfold maxLen; omega
          case c4 => omega
          case c5 => first | omega | (simp; omega)
          intro v' w1 hown' hgrow _
          have hbel : Below w.heap.size w w1 := (hnx.alloc hs _).grown hgrow (by simp; omega) (own_ge hown)
          have hown2 := HK.out w1 v' R rfl hown'
          clear hgrow hown hown' HK
          go_wp2
          go_roundw
          case rel => exact ⟨k + 1, by go_num, by omega, hown2, hbel⟩
          case measure => simp [intOf]; omega
        · have hdz : decide (2 * x + bb < 2 * Q * bb) = false := decide_eq_false hz
          have HRR := Lib.hid (r4 (by omega))
          clear hR hE r3 r4
          go_wp2_with fail
          refine (sReduce f Q wr).mono ?_
          rintro e w' ⟨rfl, rfl⟩
          rw [HRD.out, ← HRR.out]
          go_wp2_with (at_builtin; refine wpList_append_own _ rfl _ _ 24 rfl w.heap.size 3 i0 (.int .i64 0) 1 8 Tryd.underlying24 HI.out HZ0.out HZ1.out HZ2.out rfl (by decide) _ _ _ rfl (hown.alloc _) ⟨wr.heap.size, 0, none⟩ 1 1 [.int .i64 R] rfl rfl ?c1 ?c2 ?c3 ?c4 ?c5 ?_)
          case c1 => exact cell_one_new _ _ _
          case c2 => first | rfl | (intro u hu; simp at hu; subst hu; rfl)
          case c3 => unfold maxLen; omega
          case c4 => omega
          case c5 => first | omega | (simp; omega)
          intro v' w1 hown' hgrow _
          have hbel : Below w.heap.size w w1 := (hnx.alloc hs _).grown hgrow (by simp; omega) (own_ge hown)
          have hown2 := HK.out w1 v' R rfl hown'
          clear hgrow hown hown' HK
          go_wp2
          go_roundw
          case rel => exact ⟨k + 1, by go_num, by omega, hown2, hbel⟩
          case measure => simp [intOf]; omega
    · have hd1 : decide ((k : Int) < n) = false := decide_eq_false (by omega)
      obtain rfl : k = n := by omega
      have HO := Lib.hid (HF.out _ wr hown hnx)
      clear hown
      go_wp2
      go_ret2
      exact HO.out
theorem sRescale (f : Int) (a : Option Addr) (l : List Int) (cap : Nat) (bb : Int) (w : World) (hn : l.length ≤ 1048576) (hs : Src w a l.length (lf l)) : Calls Tryd.prog 42 #[.int .i64 f, .slice a l.length cap, .int .i64 bb] w (ListLB w (mRescale0 f l bb) (mRescale1 f l bb)) := by
  have BA : Hid (∀ o, Below w.heap.size w (w.alloc o)) := Lib.hid fun o => (Below.refl _ _).alloc (Nat.le_refl _) o
  by_cases h : VecOk f l
  · by_cases hb : 1 ≤ bb ∧ bb ≤ P f
    · have h0 : mRescale0 f l bb = rscL f l bb := by unfold mRescale0; rw [if_pos ⟨h, hb⟩]
      have h1 : mRescale1 f l bb = true := by simp only [mRescale1, decide_eq_true_eq]; exact ⟨h, hb⟩
      rw [h0, h1]
      exact sRescale_on f bb a l cap w hn hs h hb
    · have h0 : mRescale0 f l bb = [] := by unfold mRescale0; rw [if_neg fun x => hb x.2]
      have h1 : mRescale1 f l bb = false := by simp only [mRescale1, decide_eq_false_iff_not]; exact fun x => hb x.2
      rw [h0, h1]
      have HV : Hid (∀ w2, Below w.heap.size w w2 → Calls Tryd.prog 14 #[.int .i64 f, .slice a l.length cap] w2 (SameB w2 true)) := Lib.hid fun w2 hb => by
        have R1 := sVectorOk f a l cap w2 hn (hs.keep hb)
        rwa [vok_iff.2 h] at R1
      have HIN : Hid (∀ w2, Calls Tryd.prog 77 #[.int .i64 bb, .int .i64 1, .int .i64 (P f)] w2 fun e w' => e = .returned (.bool false) ∧ w2 = w') := Lib.hid fun w2 => in_no bb 1 (P f) w2 (by omega)
      clear hs h hb h0 h1
      go_enter Tryd.func42, Tryd.ntmps42
      go_wp2_with fail
      refine (sModulus f _).mono ?_
      rintro e w' ⟨rfl, rfl⟩
      go_wp2_with fail
      refine (HV.out _ (BA.out _)).mono ?_
      rintro e w' ⟨rfl, rfl⟩
      go_wp2_with fail
      refine (HIN.out _).mono ?_
      rintro e w' ⟨rfl, rfl⟩
      go_wp2
      go_ret2
      exact ⟨none, 0, rfl, .inl rfl, BA.out _⟩
  · have h0 : mRescale0 f l bb = [] := by unfold mRescale0; rw [if_neg fun x => h x.1]
    have h1 : mRescale1 f l bb = false := by simp only [mRescale1, decide_eq_false_iff_not]; exact fun x => h x.1
    rw [h0, h1]
    have HV : Hid (∀ w2, Below w.heap.size w w2 → Calls Tryd.prog 14 #[.int .i64 f, .slice a l.length cap] w2 (SameB w2 false)) := Lib.hid fun w2 hb => by
      have R1 := sVectorOk f a l cap w2 hn (hs.keep hb)
      rwa [vok_not.2 h] at R1
    clear hs h h0 h1
    go_enter Tryd.func42, Tryd.ntmps42
    go_wp2_with fail
    refine (sModulus f _).mono ?_
    rintro e w' ⟨rfl, rfl⟩
    go_wp2_with fail
    refine (HV.out _ (BA.out _)).mono ?_
    rintro e w' ⟨rfl, rfl⟩
    go_wp2
    go_ret2
    exact ⟨none, 0, rfl, .inl rfl, BA.out _⟩
end Go.Proofs.YtoonpnfhcmghmaaDoor
namespace Go.Proofs.YtoonpnfhcmghmaaDoor
open Go.RowKit
theorem poly_one : cutL 1 (fun _ => (1 : Int)) = [1] := by
  refine list_ext ?_ fun j hj => ?_
  · decide
  · have : j = 0 := by have h1 := cutL_le 1 (fun _ => (1 : Int)); omega
    subst this
    decide
theorem pad_one (n : Nat) : padL [1] n = oneL n := by
  refine list_ext (by rw [padL_len, oneL_len]) fun j hj => ?_
  rw [padL_len] at hj
  unfold padL oneL
  rw [lf_tab, if_pos hj, lf_tab, if_pos hj]
  cases j with
  | zero => rfl
  | succ j => rw [if_neg (by omega)]; rfl
theorem poly1_c (b : Nat) (w : World) (hb : Own w b 1 (lf [1])) : Calls Tryd.prog 94 #[.slice (some ⟨b, 0, none⟩) 1 1] w (OwnG w [1]) := by
  have := poly_c (some ⟨b, 0, none⟩) 1 1 (fun _ => 1) w (by omega) (.inr ⟨b, 0, rfl, hb.lt, fun j hj => by
    obtain rfl : j = 0 := by omega
    exact World.rowIs.cell hb hj⟩)
  rwa [poly_one] at this
theorem own_one (w : World) : Own (w.alloc (.cells #[.int .i64 1] 3)) w.heap.size 1 (lf [1]) := by
  refine ⟨#[.int .i64 1], by unfold World.alloc; simp, rfl, fun j hj => ?_⟩
  obtain rfl : j = 0 := by omega
  rfl
theorem residueB_c (x m : Int) (w : World) (hm : 0 < m) (hm2 : m ≤ 4000000000) : Calls Tryd.prog 102 #[.int .i64 x, .int .i64 m] w fun e w' => e = .returned (.int .i64 (RS x m)) ∧ w = w' := by
  have b1 := Int.lt_tmod_of_pos x hm
  have b2 := Int.tmod_lt_of_pos x hm
  go_enter Tryd.func102, Tryd.ntmps102
  go_wp2
  · go_ret
    exact ⟨ret_int (rs_neg hm ‹_›), rfl⟩
  · go_ret
    exact ⟨ret_int (rs_pos hm ‹_›), rfl⟩
theorem nearZero_c (f x : Int) (w : World) (h08 : 0 ≤ f ∧ f ≤ 8) (hx : 0 ≤ x ∧ x < P f) : Calls Tryd.prog 89 #[.int .i64 x, .int .i64 (P f)] w fun e w' => e = .returned (.int .i64 (cenF f x)) ∧ w = w' := by
  have hp := P_bd h08.1 h08.2
  have ho := P_odd h08.1 h08.2
  have td : (P f).tdiv 2 = P f / 2 := Int.tdiv_eq_ediv_of_nonneg (by omega)
  by_cases h : P f / 2 < x
  · have HC : Hid (cenF f x = x - P f) := Lib.hid (by unfold cenF; rw [if_pos (by omega)])
    have hd : decide (P f / 2 < x) = true := decide_eq_true h
    clear ho
    generalize P f = p at *
    go_enter Tryd.func89, Tryd.ntmps89
    go_wp2
    go_ret
    exact ⟨ret_int HC.out.symm, rfl⟩
  · have HC : Hid (cenF f x = x) := Lib.hid (by unfold cenF; rw [if_neg (by omega)])
    have hd : decide (P f / 2 < x) = false := decide_eq_false h
    clear ho
    generalize P f = p at *
    go_enter Tryd.func89, Tryd.ntmps89
    go_wp2
    go_ret
    exact ⟨ret_int HC.out.symm, rfl⟩
theorem nearest_c (a b : Int) (w : World) (ha : -2000000000 ≤ a ∧ a ≤ 2000000000) (hb : 1 ≤ b ∧ b ≤ 1500000000) : Calls Tryd.prog 88 #[.int .i64 a, .int .i64 b] w fun e w' => e = .returned (.int .i64 ((2 * a + b) / (2 * b))) ∧ w = w' := by
  have hr := RS_bd (x := 2 * a + b) (m := 2 * b) (by omega)
  have HF := Lib.hid (floor_prog (a := 2 * a + b) (m := 2 * b) (by omega))
  have q1 : IntKind.i64.wrap (2 * a + b - RS (2 * a + b) (2 * b)) = 2 * a + b - RS (2 * a + b) (2 * b) := IntWalk.i64_in _ (by omega)
  have hbd : -8000000000 ≤ (2 * a + b) / (2 * b) ∧ (2 * a + b) / (2 * b) ≤ 8000000000 := by
    have h2 := Int.emod_add_mul_ediv (2 * a + b) (2 * b)
    have b1 := Int.emod_nonneg (2 * a + b) (b := 2 * b) (by omega)
    have b2 := Int.emod_lt_of_pos (2 * a + b) (b := 2 * b) (by omega)
    generalize (2 * a + b) / (2 * b) = q at *
    constructor
    · rcases Int.lt_or_le q 0 with hq | hq
      · have := Int.mul_le_mul_of_nonpos_right (show (2 : Int) ≤ 2 * b by omega) (show q ≤ 0 by omega)
        omega
      · omega
    · rcases Int.lt_or_le 0 q with hq | hq
      · have := Int.mul_le_mul_of_nonneg_right (show (2 : Int) ≤ 2 * b by omega) (show 0 ≤ q by omega)
        omega
      · omega
  have kz : ((2 * b) == 0) = false := by rw [beq_eq_false_iff_ne]; omega
  have kz2 : ¬ (2 * b) = 0 := by omega
  go_enter Tryd.func88, Tryd.ntmps88
  go_wp2_with fail
  refine (residueB_c (2 * a + b) (2 * b) w (by omega) (by omega)).mono ?_
  rintro e w' ⟨rfl, rfl⟩
  have HX : Hid (IntKind.i64.wrap ((2 * a + b - RS (2 * a + b) (2 * b)).tdiv (2 * b)) = (2 * a + b) / (2 * b)) := Lib.hid (by rw [HF.out]; exact IntWalk.i64_in _ (by omega))
  have hx := HX.out
  have hf := HF.out
  generalize RS (2 * a + b) (2 * b) = r at *
  generalize hQ : (2 * a + b) / (2 * b) = Q at *
  have HQ := Lib.hid hQ
  clear hQ
  go_wp2
  go_ret
  exact ⟨ret_int HQ.out.symm, rfl⟩
set_option maxRecDepth 100000 in
set_option maxHeartbeats 1600000 in
theorem iRescale_on (f bb : Int) (b off n cap : Nat) (A : Nat → Int) (w : World) (ht : Tab w) (HV : Hid (Calls Tryd.prog 53 #[.int .i64 f, .slice (some ⟨b, off, none⟩) n cap] w (SameB w true))) (h08 : 0 ≤ f ∧ f ≤ 8) (hA : ∀ j, 0 ≤ A j ∧ A j < P f) (hn : n ≤ 512) (hb : 1 ≤ bb ∧ bb ≤ P f) (hlt : b < w.heap.size) (hc : ∀ j, j < n → w.cell? ⟨b, off + j, none⟩ = some (.int .i64 (A j))) :
    Calls Tryd.prog 43 #[.int .i64 f, .slice (some ⟨b, off, none⟩) n cap, .int .i64 bb] w (fun e w' => e = .returned (.tuple #[.slice (some ⟨w.heap.size, 0, none⟩) n n, .bool true]) ∧ Own w' w.heap.size n (fun j => rsF f bb (A j)) ∧ Below w.heap.size w w') := by
  have HC := Lib.hid hc
  have HA := Lib.hid hA
  have HT : Hid (∀ W, Below w.heap.size w W → Tab W) := Lib.hid fun W hb => ht.below hb
  have HMO := Lib.hid (iModulus f w ht)
  have hp := P_bd h08.1 h08.2
  have d1 : decide (bb < 1) = false := decide_eq_false (by omega)
  have d2 : decide (P f < bb) = false := decide_eq_false (by omega)
  have HCB : Hid (∀ j, -2000000000 ≤ cenF f (A j) ∧ cenF f (A j) ≤ 2000000000) := Lib.hid fun j => by
    have := cen_bd h08.1 h08.2 (hA j)
    omega
  clear hc hA ht
  have hmk := made_n n (by omega)
  go_enter Tryd.func43, Tryd.ntmps43
  go_wp2_with fail
  refine HV.out.mono ?_
  rintro e w' ⟨rfl, rfl⟩
  clear HV
  go_wp2_with fail
  refine HMO.out.mono ?_
  rintro e w' ⟨rfl, rfl⟩
  go_wp2_with fail
  clear hmk
  go_loopw [10, 11, 32] (fun _ _ i wr => ∃ j : Nat, i = .int .i64 j ∧ j ≤ n ∧ Own wr w.heap.size n (fun x => if x < j then rsF f bb (A x) else 0) ∧ Below w.heap.size w wr) (fun _ _ i _ => n - (intOf i).toNat)
  case atStart =>
    refine ⟨0, rfl, Nat.zero_le _, ?_, (Below.refl _ _).alloc (Nat.le_refl _) _⟩
    exact (World.rowIs_made w (.int .i64 0) n 3).congr fun j _ => by simp
  case round =>
    obtain ⟨j, rfl, hj, ho, hnb⟩ := hrel
    by_cases h1 : j < n
    · have c1 : wr.cell? ⟨b, off + j, none⟩ = some (.int .i64 (A j)) := (hnb.cell (p := ⟨b, off + j, none⟩) hlt).trans (HC.out j h1)
      have hd1 : decide ((j : Int) < n) = true := decide_eq_true (by omega)
      have HS := Lib.hid (copy_set (w := w) (F := fun x => rsF f bb (A x)) ho)
      have c3 := World.rowIs.cell ho h1
      have c4 := World.rowIs.frozen ho j
      have hAj := HA.out j
      have hCj := HCB.out j
      have HR : Hid (RS ((2 * cenF f (A j) + bb) / (2 * bb)) (P f) = rsF f bb (A j)) := Lib.hid rfl
      clear ho
      go_wp2_with fail
      refine (prime_c f wr (HT.out _ hnb) h08.1 h08.2).mono ?_
      rintro e w' ⟨rfl, rfl⟩
      go_wp2_with fail
      refine (nearZero_c f (A j) wr h08 hAj).mono ?_
      rintro e w' ⟨rfl, rfl⟩
      go_wp2_with fail
      refine (nearest_c (cenF f (A j)) bb wr hCj ⟨by omega, by omega⟩).mono ?_
      rintro e w' ⟨rfl, rfl⟩
      go_wp2_with fail
      refine (reduce_c f ((2 * cenF f (A j) + bb) / (2 * bb)) wr (HT.out _ hnb) h08.1 h08.2).mono ?_
      rintro e w' ⟨rfl, rfl⟩
      rw [HR.out]
      go_wp2
      go_roundw
      case rel => exact ⟨j + 1, by go_num, by omega, HS.out, hnb.setCell (Nat.le_refl _) _⟩
      case measure => simp [intOf]; omega
    · have hd : decide (j < n) = false := by simpa using h1
      obtain rfl : j = n := by omega
      go_wp2
      go_ret2
      exact ⟨rfl, World.rowIs.congr ho (fun x hx => by simp [hx]), hnb⟩
theorem iRescale (f : Int) (a : Option Addr) (l : List Int) (cap : Nat) (bb : Int) (w : World) (hn : l.length ≤ 1048576) (hs : Src w a l.length (lf l)) (ht : Tab w) : Calls Tryd.prog 43 #[.int .i64 f, .slice a l.length cap, .int .i64 bb] w (OwnLB w (mRescale0 f l bb) (mRescale1 f l bb)) := by
  have hV := iVectorOk f a l cap w hn hs ht
  by_cases h : VecOk f l
  · rw [vok_iff.2 h] at hV
    by_cases hb : 1 ≤ bb ∧ bb ≤ P f
    · have h0 : mRescale0 f l bb = rscL f l bb := by unfold mRescale0; rw [if_pos ⟨h, hb⟩]
      have h1 : mRescale1 f l bb = true := by simp only [mRescale1, decide_eq_true_eq]; exact ⟨h, hb⟩
      rw [h0, h1]
      obtain ⟨b, off, rfl, hlt, hc⟩ := vec_some hs h.pos.1
      refine (iRescale_on f bb b off l.length cap (lf l) w ht (Lib.hid hV) h.f08 h.lt h.pos.2 hb hlt hc).mono ?_
      rintro e w' ⟨rfl, ho, hbl⟩
      have hl := rscL_len f l bb
      exact ⟨_, l.length, by rw [hl], OwnA.of ho hl.symm (Nat.le_refl _) (fun j hj => by unfold rscL; rw [lf_tab, if_pos hj]), hbl⟩
    · have h0 : mRescale0 f l bb = [] := by unfold mRescale0; rw [if_neg fun x => hb x.2]
      have h1 : mRescale1 f l bb = false := by simp only [mRescale1, decide_eq_false_iff_not]; exact fun x => hb x.2
      rw [h0, h1]
      have HV := Lib.hid hV
      by_cases hb1 : bb < 1
      · have d1 : decide (bb < 1) = true := decide_eq_true hb1
        clear hs h hb h0 h1 hV
        go_enter Tryd.func43, Tryd.ntmps43
        go_wp2_with fail
        refine HV.out.mono ?_
        rintro e w' ⟨rfl, rfl⟩
        go_wp2
        go_ret2
        exact ⟨none, 0, rfl, OwnA.nil rfl, Below.refl _ _⟩
      · have d1 : decide (bb < 1) = false := decide_eq_false hb1
        have d2 : decide (P f < bb) = true := decide_eq_true (by omega)
        have HMO := Lib.hid (iModulus f w ht)
        clear hs h hb h0 h1 hV
        generalize P f = p at *
        go_enter Tryd.func43, Tryd.ntmps43
        go_wp2_with fail
        refine HV.out.mono ?_
        rintro e w' ⟨rfl, rfl⟩
        go_wp2_with fail
        refine HMO.out.mono ?_
        rintro e w' ⟨rfl, rfl⟩
        go_wp2
        go_ret2
        exact ⟨none, 0, rfl, OwnA.nil rfl, Below.refl _ _⟩
  · rw [vok_not.2 h] at hV
    have h0 : mRescale0 f l bb = [] := by unfold mRescale0; rw [if_neg fun x => h x.1]
    have h1 : mRescale1 f l bb = false := by simp only [mRescale1, decide_eq_false_iff_not]; exact fun x => h x.1
    rw [h0, h1]
    have HV := Lib.hid hV
    clear hs h h0 h1 hV
    go_enter Tryd.func43, Tryd.ntmps43
    go_wp2_with fail
    refine HV.out.mono ?_
    rintro e w' ⟨rfl, rfl⟩
    go_wp2
    go_ret2
    exact ⟨none, 0, rfl, OwnA.nil rfl, Below.refl _ _⟩
end Go.Proofs.YtoonpnfhcmghmaaDoor
namespace Go.Proofs.YtoonpnfhcmghmaaDoor
open Go.RowKit
theorem own_set8 {W : World} {g n s : Nat} {F G : Nat → Int} {x : Int} (h : Own W g n F) (e : ∀ t, t < n → (if t = s then x else F t) = G t) : Own (W.setCell ⟨g, s, none⟩ (.int .i64 x)) g n G :=
  (World.rowIs.set h s (.int .i64 x)).congr fun t ht => by
    rw [← e t ht]
    by_cases hs : t = s
    · simp [hs]
    · simp [hs]
set_option maxRecDepth 100000 in
set_option maxHeartbeats 3200000 in
theorem substitute_on (f r : Int) (b off n cap B : Nat) (A : Nat → Int) (w : World) (ht : Tab w) (h08 : 0 ≤ f ∧ f ≤ 8) (hA : ∀ j, 0 ≤ A j ∧ A j < P f) (n0 : 0 < n) (hn5 : n ≤ 512) (h2 : ∃ k, n = 2 ^ k) (hr : r % 2 ≠ 0) (hB : B = expN n r) (hlt : b < w.heap.size)
    (hc : ∀ j, j < n → w.cell? ⟨b, off + j, none⟩ = some (.int .i64 (A j))) :
    Calls Tryd.prog 54 #[.int .i64 r, .agg #[.int .i64 f, .slice (some ⟨b, off, none⟩) n cap]] w (fun e w' => ∃ g, e = .returned (.agg #[.int .i64 f, .slice (some ⟨g, 0, none⟩) n n]) ∧ w.heap.size ≤ g ∧ Own w' g n (fun t => RS (sgF n A (t * B ^ (n - 1))) (P f)) ∧ Below w.heap.size w w') := by
  have HT : Hid (∀ W, Below w.heap.size w W → Tab W) := Lib.hid fun W hb => ht.below hb
  have HC := Lib.hid hc
  have hBn : B < 2 * n := by rw [hB]; exact expN_lt n0 r
  have hBo : B % 2 = 1 := by rw [hB]; exact expN_odd n0 hr
  have HRES : Hid (RS r (2 * (n : Int)) = (B : Int)) := Lib.hid (by
    rw [hB]
    unfold RS expN turnN
    have e : ((2 * n : Nat) : Int) = 2 * (n : Int) := by omega
    rw [e, Int.toNat_of_nonneg (Int.emod_nonneg _ (by omega))])
  have kz : ((2 * (n : Int)) == 0) = false := by rw [beq_eq_false_iff_ne]; omega
  have kz2 : ¬ (2 * (n : Int)) = 0 := by omega
  have HSTEP : Hid (∀ k t, k < n → t < n → (if t = auQ n B k then auV f n B k A else auP f n B k A (fun _ => 0) t) = auP f n B (k + 1) A (fun _ => 0) t) := Lib.hid fun k t hk ht => au_step (fun _ => 0) n0 h2 hBo hk (hA k) ht
  have HEND : Hid (∀ t, auP f n B n A (fun _ => 0) t = RS (sgF n A (t * B ^ (n - 1))) (P f)) := Lib.hid fun t => au_end f n0 B A _ t
  have HST0 : Hid (∀ t, auP f n B 0 A (fun _ => 0) t = 0) := Lib.hid fun t => au_start f n B A _ t
  have HA := Lib.hid hA
  have hp := P_bd h08.1 h08.2
  obtain ⟨t0, t1, hb2⟩ := two_start8 w (.int .i64 f) (.slice (some ⟨b, off, none⟩) n cap) (.int .i64 0) (.slice none 0 0) 58 58
  have HB0 := Lib.hid t0
  have HB1 := Lib.hid t1
  have HRS : Hid (∀ W, Calls Tryd.prog 102 #[.int .i64 r, .int .i64 (2 * (n : Int))] W fun e w' => e = .returned (.int .i64 (B : Int)) ∧ W = w') := Lib.hid fun W => by
    have := residue_c r (2 * (n : Int)) W (by omega) (by omega)
    rwa [HRES.out] at this
  generalize auP f n B = AU at *
  clear hc hr hB hBo h2 hA ht t0 t1 HRES
  have hmk := made_n n (by omega)
  go_enter Tryd.func54, Tryd.ntmps54
  go_wp2_with fail
  generalize ((w.alloc (.cells #[.int .i64 f, .slice (some ⟨b, off, none⟩) n cap] 58)).alloc (.cells #[.int .i64 0, .slice none 0 0] 58)) = W0 at *
  obtain ⟨z0, z1⟩ := HB0.out.c
  go_wp2_with fail
  refine (size8_c f (some ⟨b, off, none⟩) n cap W0).mono ?_
  rintro e w1 ⟨rfl, b1⟩
  have c1 := below_up hb2 b1 hb2.size
  have t0 := HB0.out.keep b1 HB0.out.lt
  have t1 := HB1.out.keep b1 HB1.out.lt
  have HT0 := Lib.hid t0
  have HT1 := Lib.hid t1
  have hl0 : w.heap.size < w1.heap.size := t0.lt
  have hl1 : w.heap.size + 1 < w1.heap.size := t1.lt
  clear z0 z1 HB0 HB1 t0 t1 b1 hb2
  go_wp2_with fail
  refine (HRS.out w1).mono ?_
  rintro e w' ⟨rfl, rfl⟩
  clear HRS
  have hbm := below_alloc w1 (.cells (madeCells #[.int .i64 0] n) 3)
  have HTM := Lib.hid (HT0.out.keep hbm hl0)
  obtain ⟨z0, z1⟩ := HTM.out.c
  have HOM : Hid (Own (w1.alloc (.cells (madeCells #[.int .i64 0] n) 3)) w1.heap.size n (AU 0 A (fun _ => 0))) := Lib.hid ((World.rowIs_made w1 (.int .i64 0) n 3).congr fun j _ => by rw [HST0.out])
  go_wp2_with fail
  clear hmk z0 z1
  go_loopw [8, 9, 10, 24] (fun _ _ _ i wr => ∃ k : Nat, i = .int .i64 k ∧ k ≤ n ∧ Own wr w1.heap.size n (AU k A (fun _ => 0)) ∧ Below w1.heap.size w1 wr) (fun _ _ _ i _ => n - (intOf i).toNat)
  case atStart => exact ⟨0, rfl, Nat.zero_le _, HOM.out, hbm⟩
  case round =>
    clear HOM HTM hbm
    obtain ⟨k, rfl, hk, ho, hb⟩ := hrel
    by_cases h1 : k < n
    · have hd1 : decide ((k : Int) < n) = true := decide_eq_true (by omega)
      have cw := below_up c1 hb c1.size
      have d1 : wr.cell? ⟨b, off + k, none⟩ = some (.int .i64 (A k)) := (cw.cell (p := ⟨b, off + k, none⟩) hlt).trans (HC.out k h1)
      obtain ⟨z0, z1⟩ := (HT0.out.keep hb hl0).c
      obtain ⟨KM, hKM⟩ : ∃ KM : Nat, KM = k * B := ⟨_, rfl⟩
      have kb : KM ≤ 512 * 1024 := by rw [hKM]; exact Nat.mul_le_mul (by omega) (by omega)
      have km : (k : Int) * (B : Int) = (KM : Int) := by rw [hKM, Int.natCast_mul]
      have hS := fun t => HSTEP.out k t h1
      unfold auQ auV at hS
      rw [← hKM] at hS
      clear hKM
      have hU : KM % (2 * n) < 2 * n := Nat.mod_lt _ (by omega)
      have qc : IntKind.i64.wrap ((k : Int) * (B : Int)) = (KM : Int) := by rw [km]; exact IntWalk.i64_in _ (by omega)
      have tm : (KM : Int).tmod (2 * (n : Int)) = ((KM % (2 * n) : Nat) : Int) := by
        rw [Int.tmod_eq_emod_of_nonneg (by omega), Int.natCast_emod]; rfl
      generalize KM % (2 * n) = U at *
      have q5 : IntKind.i64.wrap ((U : Nat) : Int) = ((U : Nat) : Int) := IntWalk.i64_in _ (by omega)
      by_cases hUn : U < n
      · have hdu : decide ((n : Int) ≤ (U : Int)) = false := decide_eq_false (by omega)
        simp only [if_pos hUn] at hS
        have HS1 := Lib.hid (own_set8 (s := U) (x := A k) ho hS)
        have HS3 := Lib.hid (hb.setCell (p := ⟨w1.heap.size, U, none⟩) (Nat.le_refl _) (.int .i64 (A k)))
        have cU := World.rowIs.cell ho hUn
        have fU := World.rowIs.frozen ho U
        have q2 : ((U : Nat) : Int).toNat = U := by omega
        have q3 : (0 : Int) ≤ ((U : Nat) : Int) := by omega
        have q4 : ((U : Nat) : Int) < n := by omega
        clear ho hS km z0 z1
        generalize AU k A (fun _ => 0) U = OLD at *
        go_wp2
        go_roundw
        case rel => exact ⟨k + 1, by go_num, by omega, HS1.out, HS3.out⟩
        case measure => simp [intOf]; omega
      · have hdu : decide ((n : Int) ≤ (U : Int)) = true := decide_eq_true (by omega)
        simp only [if_neg hUn] at hS
        obtain ⟨Q, hQ⟩ : ∃ Q, Q = U - n := ⟨_, rfl⟩
        rw [← hQ] at hS
        have hQn : Q < n := by omega
        have hak := HA.out k
        have HSB := Lib.hid (sub_c f 0 (A k) wr (HT.out _ cw) h08.1 h08.2 (by omega) (by omega) hak.1 hak.2)
        obtain ⟨X, hX⟩ : ∃ X, RS (0 - A k) (P f) = X := ⟨_, rfl⟩
        rw [hX] at hS HSB
        have HS1 := Lib.hid (own_set8 (s := Q) (x := X) ho hS)
        have HS3 := Lib.hid (hb.setCell (p := ⟨w1.heap.size, Q, none⟩) (Nat.le_refl _) (.int .i64 X))
        have cU := World.rowIs.cell ho hQn
        have fU := World.rowIs.frozen ho Q
        have e1 : (U : Int) - n = (Q : Int) := by omega
        have q2 : ((Q : Nat) : Int).toNat = Q := by omega
        have q3 : (0 : Int) ≤ ((Q : Nat) : Int) := by omega
        have q4 : ((Q : Nat) : Int) < n := by omega
        have q6 : IntKind.i64.wrap ((U : Int) - n) = (Q : Int) := by rw [e1]; exact IntWalk.i64_in _ (by omega)
        clear ho hS km hQ hX
        generalize AU k A (fun _ => 0) Q = OLD at *
        go_wp2_with fail
        refine HSB.out.mono ?_
        rintro e w' ⟨rfl, rfl⟩
        go_wp2
        go_roundw
        case rel => exact ⟨k + 1, by go_num, by omega, HS1.out, HS3.out⟩
        case measure => simp [intOf]; omega
    · have hd1 : decide ((k : Int) < n) = false := decide_eq_false (by omega)
      obtain rfl : k = n := by omega
      have cw := below_up c1 hb c1.size
      obtain ⟨z0, z1⟩ := (HT0.out.keep hb hl0).c
      have r4 := HT1.out.keep hb hl1
      have rr0 := r4.c.1
      have rr1 := r4.c.2
      have rf0 := heap_frozen (j := 0) r4
      have rf1 := heap_frozen (j := 1) r4
      obtain ⟨e0, e1⟩ := store_cells (u := .int .i64 f) (v := .slice (some ⟨w1.heap.size, 0, none⟩) k k) r4
      have ne4 : w1.heap.size ≠ w.heap.size + 1 := by omega
      have HF : Hid (w.heap.size ≤ w1.heap.size ∧ Own ((wr.setCell ⟨w.heap.size + 1, 0, none⟩ (.int .i64 f)).setCell ⟨w.heap.size + 1, 1, none⟩ (.slice (some ⟨w1.heap.size, 0, none⟩) k k)) w1.heap.size k (fun t => RS (sgF k A (t * B ^ (k - 1))) (P f)) ∧ Below w.heap.size w ((wr.setCell ⟨w.heap.size + 1, 0, none⟩ (.int .i64 f)).setCell ⟨w.heap.size + 1, 1, none⟩ (.slice (some ⟨w1.heap.size, 0, none⟩) k k))) := Lib.hid ⟨by omega, own_store (World.rowIs.congr ho fun t _ => by rw [HEND.out]) ne4, below_store cw (by omega)⟩
      clear ho r4 cw
      go_wp2
      refine bodyPost_ret (v := .agg #[.int .i64 f, .slice (some ⟨w1.heap.size, 0, none⟩) k k]) (by simp [results, Tryd.results54, go_sem, *]) rfl ?_
      exact ⟨_, rfl, HF.out⟩
theorem substitute_c (f g : Int) (a : Option Addr) (l : List Int) (cap : Nat) (w : World) (ht : Tab w) (h : VecOk f l) (hg : g % 2 ≠ 0) (hs : Src w a l.length (lf l)) : Calls Tryd.prog 54 #[.int .i64 g, .agg #[.int .i64 f, .slice a l.length cap]] w (OwnVec f w (autL f l (expN l.length g))) := by
  obtain ⟨b, off, rfl, hlt, hc⟩ := vec_some hs h.pos.1
  refine (substitute_on f g b off l.length cap (expN l.length g) (lf l) w ht h.f08 h.lt h.pos.1 h.pos.2 h.pow2 hg rfl hlt hc).mono ?_
  rintro e w' ⟨g4, rfl, hg4, ho, hb⟩
  have hl := autL_len f l (expN l.length g)
  refine ⟨g4, by rw [hl], hg4, ?_, hb⟩
  rw [hl]
  exact World.rowIs.congr ho fun t ht => by unfold autL; rw [lf_tab, if_pos ht]
theorem iAutomorph (f : Int) (a : Option Addr) (l : List Int) (cap : Nat) (g : Int) (w : World) (hn : l.length ≤ 1048576) (hs : Src w a l.length (lf l)) (ht : Tab w) : Calls Tryd.prog 16 #[.int .i64 f, .slice a l.length cap, .int .i64 g] w (OwnL w (mAutomorph f l g)) := by
  have hV := iVectorOk f a l cap w hn hs ht
  by_cases h : VecOk f l
  · rw [vok_iff.2 h] at hV
    have HV := Lib.hid hV
    by_cases hg : g % 2 = 0
    · rw [show mAutomorph f l g = [] by unfold mAutomorph; rw [if_neg fun x => x.2 hg]]
      have hr3 : g.tmod 2 = 0 := odd_tmod.2 hg
      clear hs h hV hg
      go_enter Tryd.func16, Tryd.ntmps16
      go_wp2_with fail
      refine HV.out.mono ?_
      rintro e w' ⟨rfl, rfl⟩
      go_wp2
      go_ret
      exact nil_own w
    · rw [show mAutomorph f l g = autL f l (expN l.length g) by unfold mAutomorph; rw [if_pos ⟨h, hg⟩]]
      have hr2 : (g.tmod 2 == 0) = false := by rw [beq_eq_false_iff_ne]; exact fun h => hg (odd_tmod.1 h)
      have hr3 : ¬ g.tmod 2 = 0 := fun h => hg (odd_tmod.1 h)
      have HO : Hid (∀ W, Below w.heap.size w W → Calls Tryd.prog 54 #[.int .i64 g, .agg #[.int .i64 f, .slice a l.length cap]] W (OwnVec f W (autL f l (expN l.length g)))) := Lib.hid fun W hb => substitute_c f g a l cap W (ht.below hb) h hg (hs.keep hb)
      clear hs h hV hg
      generalize autL f l (expN l.length g) = R at *
      have hfe := field_el
      have hfv := field_vec
      go_enter Tryd.func16, Tryd.ntmps16
      go_wp2_with fail
      refine HV.out.mono ?_
      rintro e w' ⟨rfl, rfl⟩
      go_wp2_with fail
      refine (ringOf_c f a l.length cap w).mono ?_
      rintro e w1 ⟨rfl, b1⟩
      go_wp2_with fail
      refine (HO.out w1 b1).mono ?_
      rintro e w2 h2
      obtain ⟨g2, rfl, h3⟩ := h2.to b1
      have HF := Lib.hid h3
      clear h3 HV HO h2
      go_wp2
      go_ret
      exact HF.out
  · rw [show mAutomorph f l g = [] by unfold mAutomorph; rw [if_neg fun x => h x.1]]
    rw [vok_not.2 h] at hV
    have HV := Lib.hid hV
    clear hs h hV
    go_enter Tryd.func16, Tryd.ntmps16
    go_wp2_with fail
    refine HV.out.mono ?_
    rintro e w' ⟨rfl, rfl⟩
    go_wp2
    go_ret
    exact nil_own w
end Go.Proofs.YtoonpnfhcmghmaaDoor
namespace Go.Proofs.YtoonpnfhcmghmaaDoor
open Go.RowKit
theorem store_block {W : World} {R : Nat} {t : TypeId} {u v x y : Value} (h : TwoB R x y t W) : TwoB R u v t ((W.setCell ⟨R, 0, none⟩ u).setCell ⟨R, 1, none⟩ v) := by
  have r0 : W.rowIs R t 2 (fun j => if j = 0 then x else y) := ⟨#[x, y], h, rfl, fun j hj => by
    rcases (show j = 0 ∨ j = 1 by omega) with rfl | rfl <;> rfl⟩
  obtain ⟨cur, h1, h2, h3⟩ := World.rowIs.set (World.rowIs.set r0 0 u) 1 v
  have e : cur = #[u, v] := by
    have a0 := h3 0 (by omega)
    have a1 := h3 1 (by omega)
    apply Array.ext
    · simpa using h2
    · intro i hi1 hi2
      have hi : i = 0 ∨ i = 1 := by simp at hi2; omega
      rcases hi with rfl | rfl
      · simp at a0; rw [Array.getElem?_eq_getElem (by omega)] at a0; simpa using a0
      · simp at a1; rw [Array.getElem?_eq_getElem (by omega)] at a1; simpa using a1
  rw [e] at h1
  exact h1
theorem TwoB.other {W : World} {s R : Nat} {t : TypeId} {u v x y : Value} (h : TwoB s u v t W) (hne : s ≠ R) : TwoB s u v t ((W.setCell ⟨R, 0, none⟩ x).setCell ⟨R, 1, none⟩ y) :=
  ((Below.heap_setCell _ ⟨R, 1, none⟩ y s hne).trans (Below.heap_setCell _ ⟨R, 0, none⟩ x s hne)).trans h
theorem src_store {W : World} {a : Option Addr} {n R : Nat} {F : Nat → Int} {u v : Value} (h : Src W a n F) (ho : ∀ p, a = some p → p.block ≠ R) : Src ((W.setCell ⟨R, 0, none⟩ u).setCell ⟨R, 1, none⟩ v) a n F := by
  rcases h with h | ⟨b, off, rfl, hlt, hc⟩
  · exact .inl h
  · have hne : b ≠ R := ho _ rfl
    refine .inr ⟨b, off, rfl, by simpa using hlt, fun j hj => ?_⟩
    rw [cell_set8 hne, cell_set8 hne]
    exact hc j hj
theorem src_lies {w : World} {a : Option Addr} {n : Nat} {F : Nat → Int} (h : Src w a n F) (hn : 0 < n) : ∀ p, a = some p → p.block < w.heap.size := by
  rcases h with h | ⟨b, off, rfl, hlt, _⟩
  · omega
  · intro p hp; cases hp; exact hlt
set_option maxRecDepth 100000 in
set_option maxHeartbeats 3200000 in
theorem times_c (f : Int) (a a2 : Option Addr) (l m : List Int) (cap cap2 : Nat) (w : World) (ht : Tab w) (h : TwoOk f l m) (hs : Src w a l.length (lf l)) (hs2 : Src w a2 m.length (lf m)) : Calls Tryd.prog 121 #[.agg #[.int .i64 f, .slice a l.length cap], .agg #[.int .i64 f, .slice a2 m.length cap2]] w (OwnVec f w (twiL f l m)) := by
  have HTW : Hid (∀ W, Below w.heap.size w W → Calls Tryd.prog 57 #[.int .i64 f, .slice a l.length cap, .slice a2 m.length cap2] W (OwnG W (twiL f l m))) := Lib.hid fun W hb => twisted_c f a l cap a2 m cap2 W (ht.below hb) h (hs.keep hb) (hs2.keep hb)
  clear hs hs2 h ht
  generalize twiL f l m = R at *
  generalize l.length = n at *
  generalize m.length = n2 at *
  obtain ⟨t0, t1, hb1⟩ := two_start8 w (.int .i64 f) (.slice a n cap) (.int .i64 f) (.slice a2 n2 cap2) 58 58
  have hz : ((w.alloc (.cells #[.int .i64 f, .slice a n cap] 58)).alloc (.cells #[.int .i64 f, .slice a2 n2 cap2] 58)).heap.size = w.heap.size + 2 := by simp
  generalize hV : ((w.alloc (.cells #[.int .i64 f, .slice a n cap] 58)).alloc (.cells #[.int .i64 f, .slice a2 n2 cap2] 58)) = V at *
  have t2 := twoB_new V (.int .i64 0) (.slice none 0 0) 58
  have hb2 := below_alloc V (.cells #[.int .i64 0, .slice none 0 0] 58)
  have t0' := t0.keep hb2 t0.lt
  have t1' := t1.keep hb2 t1.lt
  have hbw := below_up hb1 hb2 hb1.size
  rw [hz] at t2
  rw [← hV] at t0' t1' t2 hbw
  have HK := Lib.hid (FourT.mk t0'.c t1'.c)
  have HB2 := Lib.hid t2
  have hlt0 : w.heap.size + 1 < V.heap.size := t1.lt
  clear t0 t1 t2 t0' t1' hb1 hb2 hz hV hlt0
  go_enter Tryd.func121, Tryd.ntmps121
  go_wp2_with fail
  generalize (((w.alloc (.cells #[.int .i64 f, .slice a n cap] 58)).alloc (.cells #[.int .i64 f, .slice a2 n2 cap2] 58)).alloc (.cells #[.int .i64 0, .slice none 0 0] 58)) = W0 at *
  have kk := HK.out
  have kkd : FourT w.heap.size (w.heap.size + 1) (.int .i64 f) (.slice a n cap) (.int .i64 f) (.slice a2 n2 cap2) W0.drew := kk
  have c3d : Below w.heap.size w W0.drew := hbw.drew
  have r3d : TwoB (w.heap.size + 2) (.int .i64 0) (.slice none 0 0) 58 W0.drew := HB2.out
  have l3d := r3d.lt
  have HPP := Lib.hid (HTW.out _ c3d)
  clear HTW
  go_region_held3 (fun W => W.cell? ⟨w.heap.size, 0, none⟩ = some (.int .i64 f) ∧ W.cell? ⟨w.heap.size, 1, none⟩ = some (.slice a n cap) ∧ W.cell? ⟨w.heap.size + 1, 0, none⟩ = some (.int .i64 f) ∧ W.cell? ⟨w.heap.size + 1, 1, none⟩ = some (.slice a2 n2 cap2))
    (first | exact kk | exact kkd | exact kk4 | exact kk4.store2 _ _ (by omega) (by omega) | go_keep)
    (first
      | (go_at_call 57; refine HPP.out.mono ?_; rintro e w4 ⟨g4, rfl, hg4, o4, b4⟩; have kk4 := kkd.keep b4 (by omega) (by omega); have c4 := below_up c3d b4 c3d.size; have r4 := r3d.keep b4 l3d; have rr0 := r4.c.1; have rr1 := r4.c.2; have rf0 := heap_frozen (j := 0) r4; have rf1 := heap_frozen (j := 1) r4; have ne4 : g4 ≠ w.heap.size + 2 := (by omega); have HO4 := Lib.hid o4))
  obtain ⟨e0, e1⟩ := store_cells (u := .int .i64 f) (v := .slice (some ⟨g4, 0, none⟩) R.length R.length) r4
  have HF : Hid (OwnVec f w R (.returned (.agg #[.int .i64 f, .slice (some ⟨g4, 0, none⟩) R.length R.length])) ((w4.setCell ⟨w.heap.size + 2, 0, none⟩ (.int .i64 f)).setCell ⟨w.heap.size + 2, 1, none⟩ (.slice (some ⟨g4, 0, none⟩) R.length R.length))) := Lib.hid ⟨g4, rfl, Nat.le_trans c3d.size hg4, own_store HO4.out ne4, below_store c4 (by omega)⟩
  clear kk kkd kk4 r4 rr0 rr1 rf0 rf1 HO4 c4 c3d b4 r3d
  generalize ((w4.setCell ⟨w.heap.size + 2, 0, none⟩ (.int .i64 f)).setCell ⟨w.heap.size + 2, 1, none⟩ (.slice (some ⟨g4, 0, none⟩) R.length R.length)) = W5 at *
  go_wp2
  refine bodyPost_ret (v := .agg #[.int .i64 f, .slice (some ⟨g4, 0, none⟩) R.length R.length]) (by simp [results, Tryd.results121, go_sem, *]) rfl ?_
  exact HF.out
/-- Between two rounds of squaring; s: the heap's size at the call. -/
def SqAt (f : Int) (w : World) (N g1 : Nat) (R : List Int) (t : TypeId) (kk : Int) (wr : World) : Prop :=
  ∃ (gO cx : Nat) (ax : Option Addr) (O X : List Int), Hid (RPow f N R O X kk) ∧ TwoB (w.heap.size + 3) (.int .i64 f) (.slice (some ⟨gO, 0, none⟩) O.length O.length) t wr ∧ TwoB (w.heap.size + 1) (.int .i64 f) (.slice ax X.length cx) t wr ∧ TwoB (w.heap.size + 2) (.int .i64 0) (.slice none 0 0) t wr ∧ Own wr gO O.length (lf O) ∧ Src wr ax X.length (lf X) ∧ (gO = g1 ∨ w.heap.size + 3 < gO) ∧ (∀ p, ax = some p → p.block < w.heap.size ∨ w.heap.size + 3 < p.block) ∧ Below w.heap.size w wr
theorem four_start8 (w : World) (u v u1 v1 u2 v2 u3 v3 : Value) (t : TypeId) :
    TwoB (w.heap.size + 1) u1 v1 t ((((w.alloc (.cells #[u, v] t)).alloc (.cells #[u1, v1] t)).alloc (.cells #[u2, v2] t)).alloc (.cells #[u3, v3] t)) ∧ TwoB (w.heap.size + 2) u2 v2 t ((((w.alloc (.cells #[u, v] t)).alloc (.cells #[u1, v1] t)).alloc (.cells #[u2, v2] t)).alloc (.cells #[u3, v3] t)) ∧ TwoB (w.heap.size + 3) u3 v3 t ((((w.alloc (.cells #[u, v] t)).alloc (.cells #[u1, v1] t)).alloc (.cells #[u2, v2] t)).alloc (.cells #[u3, v3] t)) ∧ Below w.heap.size w ((((w.alloc (.cells #[u, v] t)).alloc (.cells #[u1, v1] t)).alloc (.cells #[u2, v2] t)).alloc (.cells #[u3, v3] t)) := by
  obtain ⟨_, a1, b1⟩ := two_start8 w u v u1 v1 t t
  have hz : ((w.alloc (.cells #[u, v] t)).alloc (.cells #[u1, v1] t)).heap.size = w.heap.size + 2 := by simp
  generalize ((w.alloc (.cells #[u, v] t)).alloc (.cells #[u1, v1] t)) = V at *
  obtain ⟨a2, a3, b2⟩ := two_start8 V u2 v2 u3 v3 t t
  rw [hz] at a2 a3
  exact ⟨a1.keep b2 a1.lt, a2, a3, below_up b1 b2 b1.size⟩
end Go.Proofs.YtoonpnfhcmghmaaDoor
namespace Go.Proofs.YtoonpnfhcmghmaaDoor
open Go.RowKit
set_option maxRecDepth 100000 in
set_option maxHeartbeats 6400000 in
theorem bySqRing_c (f e : Int) (g1 : Nat) (a2 : Option Addr) (l : List Int) (c2 : Nat) (w : World) (ht : Tab w) (h : VecOk f l) (e0 : 0 ≤ e) (e1 : e ≤ 1000000) (hs1 : Own w g1 (oneL l.length).length (lf (oneL l.length))) (hs2 : Src w a2 l.length (lf l)) :
    Calls Tryd.prog 119 #[.agg #[.int .i64 f, .slice (some ⟨g1, 0, none⟩) (oneL l.length).length (oneL l.length).length], .agg #[.int .i64 f, .slice a2 l.length c2], .int .i64 e, .func (.func 121) #[] #[]] w (fun e' w' => ∃ g, e' = .returned (.agg #[.int .i64 f, .slice (some ⟨g, 0, none⟩) (sqS f (oneL l.length) l e.toNat).length (sqS f (oneL l.length) l e.toNat).length]) ∧ (g = g1 ∨ w.heap.size ≤ g) ∧ Own w' g (sqS f (oneL l.length) l e.toNat).length (lf (sqS f (oneL l.length) l e.toNat)) ∧ Below w.heap.size w w') := by
  have HE : Hid (∀ args W, (callFunc 121 args).run Tryd.prog W = .ok (.enter 121 args) W) := Lib.hid fun args W => enters_of Tryd.func121 (by kernel_rfl) rfl args W
  have HT : Hid (∀ W, Below w.heap.size w W → Tab W) := Lib.hid fun W hb => ht.below hb
  have HR0 : Hid (RPow f l.length (sqS f (oneL l.length) l e.toNat) (oneL l.length) l e) := Lib.hid ⟨⟨h.one8, h, oneL_len _, rfl⟩, rfl⟩
  have hl0 := h.pos.1
  have hg1 := hs1.lt
  obtain ⟨t1, t2, t3, hb4⟩ := four_start8 w (.int .i64 f) (.slice (some ⟨g1, 0, none⟩) (oneL l.length).length (oneL l.length).length) (.int .i64 f) (.slice a2 l.length c2) (.int .i64 0) (.slice none 0 0) (.int .i64 f) (.slice (some ⟨g1, 0, none⟩) (oneL l.length).length (oneL l.length).length) 58
  have HST : Hid (SqAt f w l.length g1 (sqS f (oneL l.length) l e.toNat) 58 e ((((w.alloc (.cells #[.int .i64 f, .slice (some ⟨g1, 0, none⟩) (oneL l.length).length (oneL l.length).length] 58)).alloc (.cells #[.int .i64 f, .slice a2 l.length c2] 58)).alloc (.cells #[.int .i64 0, .slice none 0 0] 58)).alloc (.cells #[.int .i64 f, .slice (some ⟨g1, 0, none⟩) (oneL l.length).length (oneL l.length).length] 58))) := Lib.hid ⟨g1, c2, a2, oneL l.length, l, HR0, t3, t1, t2, hs1.keep hb4, hs2.keep hb4, .inl rfl, fun p hp => .inl (src_lies hs2 hl0 p hp), hb4⟩
  clear t1 t2 t3 hb4 hs1 hs2 HR0 ht
  generalize sqS f (oneL l.length) l e.toNat = R at *
  generalize oneL l.length = O1 at *
  have HN : Hid (0 < l.length) := Lib.hid hl0
  clear hl0 h
  generalize l.length = N at *
  go_enter Tryd.func119, Tryd.ntmps119
  go_wp2_with fail
  go_loopw [2] (fun k wr => ∃ kk : Int, k = .int .i64 kk ∧ 0 ≤ kk ∧ kk ≤ 1000000 ∧ SqAt f w N g1 R 58 kk wr) (fun k _ => (intOf k).toNat)
  case atStart => exact ⟨e, rfl, e0, e1, HST.out⟩
  case round =>
    clear HST
    obtain ⟨k, rfl, k0, k1, gO, cx, ax, O, X, HK, r9, r5, r8, oO, sX, hgO, hax, hb⟩ := hrel
    have hl9 := r9.lt
    by_cases hk : 0 < k
    · have HTX : Hid (∀ W, Below w.heap.size w W → Src W ax X.length (lf X) → Calls Tryd.prog 121 #[.agg #[.int .i64 f, .slice ax X.length cx], .agg #[.int .i64 f, .slice ax X.length cx]] W (OwnVec f W (twiL f X X))) := Lib.hid fun W hb2 hs => by
        obtain ⟨⟨hO, hX, h1, h2⟩, _⟩ := HK.out
        exact times_c f ax ax X X cx cx W (HT.out W hb2) ⟨rfl, hX, hX⟩ hs hs
      have HRST : Hid (∀ (g2 : Nat) (O2 : List Int) (W : World), TwoB (w.heap.size + 3) (.int .i64 f) (.slice (some ⟨g2, 0, none⟩) O2.length O2.length) 58 W → TwoB (w.heap.size + 1) (.int .i64 f) (.slice ax X.length cx) 58 W → TwoB (w.heap.size + 2) (.int .i64 0) (.slice none 0 0) 58 W → Own W g2 O2.length (lf O2) → (g2 = g1 ∨ w.heap.size + 3 < g2) → Below w.heap.size w W → RPow f N R O2 (twiL f X X) (k / 2) →
          ∀ (e' : Ending) (w6 : World), OwnVec f W (twiL f X X) e' w6 → ∃ g6, e' = .returned (.agg #[.int .i64 f, .slice (some ⟨g6, 0, none⟩) (twiL f X X).length (twiL f X X).length]) ∧ TwoB (w.heap.size + 1) (.int .i64 f) (.slice ax X.length cx) 58 w6 ∧ Hid (SqAt f w N g1 R 58 (k / 2) ((w6.setCell ⟨w.heap.size + 1, 0, none⟩ (.int .i64 f)).setCell ⟨w.heap.size + 1, 1, none⟩ (.slice (some ⟨g6, 0, none⟩) (twiL f X X).length (twiL f X X).length)))) := Lib.hid (by
        rintro g2 O2 W q9 q5 q8 oO2 hg2 hbW hRP e' w6 ⟨g6, rfl, hg6, o6, b6⟩
        have l9 := q9.lt
        have hg2l := oO2.lt
        refine ⟨g6, rfl, q5.keep b6 q5.lt, Lib.hid ⟨g2, (twiL f X X).length, some ⟨g6, 0, none⟩, O2, twiL f X X, Lib.hid hRP, (q9.keep b6 q9.lt).other (by omega), store_block (q5.keep b6 q5.lt), (q8.keep b6 q8.lt).other (by omega), own_store (oO2.keep b6) (by rcases hg2 with h | h <;> omega), (own_store o6 (by omega)).src, hg2, fun p hp => ?_, below_store (below_up hbW b6 hbW.size) (by omega)⟩⟩
        cases hp
        right
        show w.heap.size + 3 < g6
        omega)
      obtain ⟨z90, z91⟩ := r9.c
      obtain ⟨z50, z51⟩ := r5.c
      by_cases h2 : k % 2 = 1
      · have ek : (k % 2 == 1) = true := by simp [h2]
        have HTO : Hid (Calls Tryd.prog 121 #[.agg #[.int .i64 f, .slice (some ⟨gO, 0, none⟩) O.length O.length], .agg #[.int .i64 f, .slice ax X.length cx]] wr (OwnVec f wr (twiL f O X))) := Lib.hid (by
          obtain ⟨⟨hO, hX, h1, h2⟩, _⟩ := HK.out
          exact times_c f (some ⟨gO, 0, none⟩) ax O X O.length cx wr (HT.out _ hb) ⟨h1.trans h2.symm, hO, hX⟩ oO.src sX)
        have HRP : Hid (RPow f N R (twiL f O X) (twiL f X X) (k / 2)) := Lib.hid (by
          obtain ⟨⟨hO, hX, h1, h3⟩, hq⟩ := HK.out
          refine ⟨⟨hO.twi8, hX.twi8, (twiL_len _ _ _).trans h1, (twiL_len _ _ _).trans h3⟩, ?_⟩
          rw [← hq, sqS_odd f O X (n := k.toNat) (by omega)]
          congr 1
          omega)
        have hE1 := HE.out #[.agg #[.int .i64 f, .slice (some ⟨gO, 0, none⟩) O.length O.length], .agg #[.int .i64 f, .slice ax X.length cx]] wr
        clear h2
        go_wp2_with fail
        refine HTO.out.mono ?_
        rintro e w4 ⟨g4, rfl, hg4, o4, b4⟩
        clear hE1 z90 z91 z50 z51 HTO
        have q9 := r9.keep b4 hl9
        have q5 := r5.keep b4 r5.lt
        have q8 := r8.keep b4 r8.lt
        have sX4 := sX.keep b4
        have rr0 := q9.c.1
        have rr1 := q9.c.2
        have rf0 := heap_frozen (j := 0) q9
        have rf1 := heap_frozen (j := 1) q9
        have s9 := store_block (u := .int .i64 f) (v := .slice (some ⟨g4, 0, none⟩) (twiL f O X).length (twiL f O X).length) q9
        have s5 := q5.other (R := w.heap.size + 3) (x := .int .i64 f) (y := .slice (some ⟨g4, 0, none⟩) (twiL f O X).length (twiL f O X).length) (by omega)
        have s8 := q8.other (R := w.heap.size + 3) (x := .int .i64 f) (y := .slice (some ⟨g4, 0, none⟩) (twiL f O X).length (twiL f O X).length) (by omega)
        have sO := own_store (R := w.heap.size + 3) (u := .int .i64 f) (v := .slice (some ⟨g4, 0, none⟩) (twiL f O X).length (twiL f O X).length) o4 (by omega)
        have sX5 := src_store (R := w.heap.size + 3) (u := .int .i64 f) (v := .slice (some ⟨g4, 0, none⟩) (twiL f O X).length (twiL f O X).length) sX4 (fun p hp => by rcases hax p hp with h | h <;> omega)
        have b5 := below_store (R := w.heap.size + 3) (u := .int .i64 f) (v := .slice (some ⟨g4, 0, none⟩) (twiL f O X).length (twiL f O X).length) (below_up hb b4 hb.size) (by omega)
        clear q9 q5 q8 sX4 r9 r5 r8 oO sX b4
        have hgg : g4 = g1 ∨ w.heap.size + 3 < g4 := .inr (by omega)
        go_upto_region 6 with fail
        generalize ((w4.setCell ⟨w.heap.size + 3, 0, none⟩ (.int .i64 f)).setCell ⟨w.heap.size + 3, 1, none⟩ (.slice (some ⟨g4, 0, none⟩) (twiL f O X).length (twiL f O X).length)) = W5 at *
        clear rr0 rr1 rf0 rf1
        obtain ⟨z50, z51⟩ := s5.c
        have hE2 := HE.out #[.agg #[.int .i64 f, .slice ax X.length cx], .agg #[.int .i64 f, .slice ax X.length cx]] W5
        go_wp2_with fail
        refine (HTX.out W5 b5 sX5).mono ?_
        rintro e w6 h6
        obtain ⟨g6, rfl, q56, HSQ⟩ := HRST.out g4 (twiL f O X) W5 s9 s5 s8 sO hgg b5 HRP.out e w6 h6
        clear hE2 z50 z51 s9 s5 s8 sO sX5 b5 h6 HTX HRST
        have ss0 := q56.c.1
        have ss1 := q56.c.2
        have sf0 := heap_frozen (j := 0) q56
        have sf1 := heap_frozen (j := 1) q56
        clear q56
        go_wp2
        go_roundw
        case rel => exact ⟨k / 2, rfl, by omega, by omega, HSQ.out⟩
        case measure => simp [intOf] <;> omega
      · have ek : (k % 2 == 1) = false := by simp [h2]
        have HRP : Hid (RPow f N R O (twiL f X X) (k / 2)) := Lib.hid (by
          obtain ⟨⟨hO, hX, h1, h3⟩, hq⟩ := HK.out
          refine ⟨⟨hO, hX.twi8, h1, (twiL_len _ _ _).trans h3⟩, ?_⟩
          rw [← hq, sqS_even f O X (n := k.toNat) (by omega) (by omega)]
          congr 1
          omega)
        have hE2 := HE.out #[.agg #[.int .i64 f, .slice ax X.length cx], .agg #[.int .i64 f, .slice ax X.length cx]] wr
        clear h2
        go_wp2_with fail
        refine (HTX.out wr hb sX).mono ?_
        rintro e w6 h6
        obtain ⟨g6, rfl, q56, HSQ⟩ := HRST.out gO O wr r9 r5 r8 oO hgO hb HRP.out e w6 h6
        clear hE2 z50 z51 z90 z91 r9 r5 r8 oO sX hb h6 HTX HRST HK
        have ss0 := q56.c.1
        have ss1 := q56.c.2
        have sf0 := heap_frozen (j := 0) q56
        have sf1 := heap_frozen (j := 1) q56
        clear q56
        go_wp2
        go_roundw
        case rel => exact ⟨k / 2, rfl, by omega, by omega, HSQ.out⟩
        case measure => simp [intOf] <;> omega
    · obtain rfl : k = 0 := by omega
      obtain ⟨z0, z1⟩ := r9.c
      have rr0 := r8.c.1
      have rr1 := r8.c.2
      have rf0 := heap_frozen (j := 0) r8
      have rf1 := heap_frozen (j := 1) r8
      have hq := HK.out.2
      rw [Int.toNat_zero, sqS_zero] at hq
      subst hq
      obtain ⟨e0, e1⟩ := store_cells (u := .int .i64 f) (v := .slice (some ⟨gO, 0, none⟩) O.length O.length) r8
      have ne8 : gO ≠ w.heap.size + 2 := by rcases hgO with h | h <;> omega
      have HF : Hid ((gO = g1 ∨ w.heap.size ≤ gO) ∧ Own ((wr.setCell ⟨w.heap.size + 2, 0, none⟩ (.int .i64 f)).setCell ⟨w.heap.size + 2, 1, none⟩ (.slice (some ⟨gO, 0, none⟩) O.length O.length)) gO O.length (lf O) ∧ Below w.heap.size w ((wr.setCell ⟨w.heap.size + 2, 0, none⟩ (.int .i64 f)).setCell ⟨w.heap.size + 2, 1, none⟩ (.slice (some ⟨gO, 0, none⟩) O.length O.length))) := Lib.hid ⟨by rcases hgO with h | h <;> omega, own_store oO ne8, below_store hb (by omega)⟩
      clear oO sX r9 r5 r8 hgO hax hb HK
      go_wp2
      refine bodyPost_ret (v := .agg #[.int .i64 f, .slice (some ⟨gO, 0, none⟩) O.length O.length]) (by simp [results, Tryd.results119, go_sem, *]) rfl ?_
      exact ⟨gO, rfl, HF.out⟩
end Go.Proofs.YtoonpnfhcmghmaaDoor
namespace Go.Proofs.YtoonpnfhcmghmaaDoor
open Go.RowKit
set_option maxRecDepth 100000 in
set_option maxHeartbeats 3200000 in
theorem one_c (f : Int) (a : Option Addr) (n cap : Nat) (w : World) (n1 : 1 ≤ n) (hn : n ≤ 512) : Calls Tryd.prog 120 #[.agg #[.int .i64 f, .slice a n cap]] w (OwnVec f w (oneL n)) := by
  have HPD : Hid (∀ g W, Own W g [(1 : Int)].length (lf [1]) → Calls Tryd.prog 93 #[.slice (some ⟨g, 0, none⟩) 1 1, .int .i64 n] W (OwnG W (oneL n))) := Lib.hid fun g W ho => by
    have := padded_c (some ⟨g, 0, none⟩) [1] 1 n W n1 (by omega) ho.src
    rwa [pad_one] at this
  generalize oneL n = R at *
  obtain ⟨t0, t1, hb2⟩ := two_start8 w (.int .i64 f) (.slice a n cap) (.int .i64 0) (.slice none 0 0) 58 58
  have HB0 := Lib.hid t0
  have HB1 := Lib.hid t1
  clear t0 t1
  go_enter Tryd.func120, Tryd.ntmps120
  go_wp2_with fail
  generalize ((w.alloc (.cells #[.int .i64 f, .slice a n cap] 58)).alloc (.cells #[.int .i64 0, .slice none 0 0] 58)) = W0 at *
  have kb := HB0.out.c
  have k0 : TwoC w.heap.size (.int .i64 f) (.slice a n cap) W0.drew := kb.drew
  have hl0 : w.heap.size + 1 < W0.heap.size := HB1.out.lt
  have hl0d : w.heap.size + 1 < W0.drew.heap.size := hl0
  have hba := below_alloc W0 (.cells #[.int .i64 1] 3)
  have ka : TwoC w.heap.size (.int .i64 f) (.slice a n cap) (W0.alloc (.cells #[.int .i64 1] 3)).drew := (kb.keep hba (show w.heap.size < W0.heap.size by omega)).drew
  have ra : TwoB (w.heap.size + 1) (.int .i64 0) (.slice none 0 0) 58 (W0.alloc (.cells #[.int .i64 1] 3)).drew := (show TwoB _ _ _ _ (W0.alloc (.cells #[.int .i64 1] 3)) from HB1.out.keep hba hl0)
  have ca : Below w.heap.size w (W0.alloc (.cells #[.int .i64 1] 3)).drew := (below_up hb2 hba hb2.size).drew
  have oa : Own (W0.alloc (.cells #[.int .i64 1] 3)).drew W0.heap.size 1 (lf [1]) := (show Own (W0.alloc (.cells #[.int .i64 1] 3)) W0.heap.size 1 (lf [1]) from own_one W0)
  have hla := ra.lt
  go_region_held3 (fun W => W.cell? ⟨w.heap.size, 0, none⟩ = some (.int .i64 f) ∧ W.cell? ⟨w.heap.size, 1, none⟩ = some (.slice a n cap))
    (first | exact kb | exact k0 | exact ka | exact k1 | exact k2 | exact k4 | exact k4.store2 _ _ (by omega) | go_keep)
    (first
      | (go_at_call 94; refine (poly1_c _ (W0.alloc (.cells #[.int .i64 1] 3)).drew oa).mono ?_; rintro e w1 ⟨g1, rfl, hg1, o1, b1⟩; have k1 := ka.keep b1 (by omega); have c1 := below_up ca b1 ca.size; have r1 := ra.keep b1 hla; have l1 := r1.lt)
      | (go_at_call 101; refine (size8_c f a n cap _).mono ?_; rintro e w2 ⟨rfl, b2⟩; have k2 := k1.keep b2 (by omega); have c2 := below_up c1 b2 c1.size; have r2 := r1.keep b2 l1; have o2 := o1.keep b2; have l2 := r2.lt)
      | (go_at_call 93; refine (HPD.out g1 _ o2).mono ?_; rintro e w4 ⟨g4, rfl, hg4, o4, b4⟩; have k4 := k2.keep b4 (by omega); have c4 := below_up c2 b4 c2.size; have r4 := r2.keep b4 l2; have rr0 := r4.c.1; have rr1 := r4.c.2; have rf0 := heap_frozen (j := 0) r4; have rf1 := heap_frozen (j := 1) r4; have ne4 : g4 ≠ w.heap.size + 1 := (by omega); have HO4 := Lib.hid o4))
  obtain ⟨e0, e1⟩ := store_cells (u := .int .i64 f) (v := .slice (some ⟨g4, 0, none⟩) R.length R.length) r4
  have HF : Hid (OwnVec f w R (.returned (.agg #[.int .i64 f, .slice (some ⟨g4, 0, none⟩) R.length R.length])) ((w4.setCell ⟨w.heap.size + 1, 0, none⟩ (.int .i64 f)).setCell ⟨w.heap.size + 1, 1, none⟩ (.slice (some ⟨g4, 0, none⟩) R.length R.length))) := Lib.hid ⟨g4, rfl, Nat.le_trans c2.size hg4, own_store HO4.out ne4, below_store c4 (by omega)⟩
  clear kb k0 ka k1 k2 k4 r4 rr0 rr1 rf0 rf1 HO4 c4 c2 c1 ca b4 r1 r2 ra b1 b2 o1 o2 oa hba
  generalize ((w4.setCell ⟨w.heap.size + 1, 0, none⟩ (.int .i64 f)).setCell ⟨w.heap.size + 1, 1, none⟩ (.slice (some ⟨g4, 0, none⟩) R.length R.length)) = W5 at *
  go_wp2
  refine bodyPost_ret (v := .agg #[.int .i64 f, .slice (some ⟨g4, 0, none⟩) R.length R.length]) (by simp [results, Tryd.results120, go_sem, *]) rfl ?_
  exact HF.out
set_option maxRecDepth 100000 in
set_option maxHeartbeats 3200000 in
theorem ringPower_c (f e : Int) (a : Option Addr) (l : List Int) (cap : Nat) (w : World) (ht : Tab w) (h : VecOk f l) (e0 : 0 ≤ e) (e1 : e ≤ 1000000) (hs : Src w a l.length (lf l)) : Calls Tryd.prog 73 #[.agg #[.int .i64 f, .slice a l.length cap], .int .i64 e] w (OwnVec f w (sqS f (oneL l.length) l e.toNat)) := by
  have HON : Hid (∀ W, Calls Tryd.prog 120 #[.agg #[.int .i64 f, .slice a l.length cap]] W (OwnVec f W (oneL l.length))) := Lib.hid fun W => one_c f a l.length cap W h.pos.1 h.pos.2
  have HSQ : Hid (∀ g1 W, Below w.heap.size w W → Own W g1 (oneL l.length).length (lf (oneL l.length)) → Calls Tryd.prog 119 #[.agg #[.int .i64 f, .slice (some ⟨g1, 0, none⟩) (oneL l.length).length (oneL l.length).length], .agg #[.int .i64 f, .slice a l.length cap], .int .i64 e, .func (.func 121) #[] #[]] W (fun e' w' => ∃ g, e' = .returned (.agg #[.int .i64 f, .slice (some ⟨g, 0, none⟩) (sqS f (oneL l.length) l e.toNat).length (sqS f (oneL l.length) l e.toNat).length]) ∧ (g = g1 ∨ W.heap.size ≤ g) ∧ Own w' g (sqS f (oneL l.length) l e.toNat).length (lf (sqS f (oneL l.length) l e.toNat)) ∧ Below W.heap.size W w')) := Lib.hid fun g1 W hb ho => bySqRing_c f e g1 a l cap W (ht.below hb) h e0 e1 ho (hs.keep hb)
  clear hs h ht
  generalize sqS f (oneL l.length) l e.toNat = R at *
  generalize oneL l.length = O1 at *
  generalize l.length = n at *
  obtain ⟨t0, t1, hb2⟩ := two_start8 w (.int .i64 f) (.slice a n cap) (.int .i64 0) (.slice none 0 0) 58 58
  have HB0 := Lib.hid t0
  have HB1 := Lib.hid t1
  clear t0 t1
  go_enter Tryd.func73, Tryd.ntmps73
  go_wp2_with fail
  generalize ((w.alloc (.cells #[.int .i64 f, .slice a n cap] 58)).alloc (.cells #[.int .i64 0, .slice none 0 0] 58)) = W0 at *
  have kb := HB0.out.c
  have k0 : TwoC w.heap.size (.int .i64 f) (.slice a n cap) W0.drew := kb.drew
  have c0 : Below w.heap.size w W0.drew := hb2.drew
  have r0 : TwoB (w.heap.size + 1) (.int .i64 0) (.slice none 0 0) 58 W0.drew := HB1.out
  have hl0d := r0.lt
  go_region_held3 (fun W => W.cell? ⟨w.heap.size, 0, none⟩ = some (.int .i64 f) ∧ W.cell? ⟨w.heap.size, 1, none⟩ = some (.slice a n cap))
    (first | exact kb | exact k0 | exact k1 | exact k4 | exact k4.store2 _ _ (by omega) | go_keep)
    (first
      | (go_at_call 120; refine (HON.out _).mono ?_; rintro e w1 ⟨g1, rfl, hg1, o1, b1⟩; have k1 := k0.keep b1 (by omega); have c1 := below_up c0 b1 c0.size; have r1 := r0.keep b1 hl0d; have l1 := r1.lt)
      | (go_at_call 119; refine (HSQ.out g1 _ c1 o1).mono ?_; rintro e w4 ⟨g4, rfl, hg4, o4, b4⟩; have k4 := k1.keep b4 (by omega); have c4 := below_up c1 b4 c1.size; have r4 := r1.keep b4 l1; have rr0 := r4.c.1; have rr1 := r4.c.2; have rf0 := heap_frozen (j := 0) r4; have rf1 := heap_frozen (j := 1) r4; have ne4 : g4 ≠ w.heap.size + 1 := (by rcases hg4 with h | h <;> omega); have ng4 : w.heap.size ≤ g4 := (by rcases hg4 with h | h <;> omega); have HO4 := Lib.hid o4))
  obtain ⟨e0, e1⟩ := store_cells (u := .int .i64 f) (v := .slice (some ⟨g4, 0, none⟩) R.length R.length) r4
  have HF : Hid (OwnVec f w R (.returned (.agg #[.int .i64 f, .slice (some ⟨g4, 0, none⟩) R.length R.length])) ((w4.setCell ⟨w.heap.size + 1, 0, none⟩ (.int .i64 f)).setCell ⟨w.heap.size + 1, 1, none⟩ (.slice (some ⟨g4, 0, none⟩) R.length R.length))) := Lib.hid ⟨g4, rfl, ng4, own_store HO4.out ne4, below_store c4 (by omega)⟩
  clear kb k0 k1 k4 r4 rr0 rr1 rf0 rf1 HO4 c4 c1 b4 r1 b1 o1 HSQ HON hg4
  generalize ((w4.setCell ⟨w.heap.size + 1, 0, none⟩ (.int .i64 f)).setCell ⟨w.heap.size + 1, 1, none⟩ (.slice (some ⟨g4, 0, none⟩) R.length R.length)) = W5 at *
  go_wp2
  refine bodyPost_ret (v := .agg #[.int .i64 f, .slice (some ⟨g4, 0, none⟩) R.length R.length]) (by simp [results, Tryd.results73, go_sem, *]) rfl ?_
  exact HF.out
theorem iRingPower (f : Int) (a : Option Addr) (l : List Int) (cap : Nat) (e : Int) (w : World) (hn : l.length ≤ 1048576) (hs : Src w a l.length (lf l)) (ht : Tab w) : Calls Tryd.prog 34 #[.int .i64 f, .slice a l.length cap, .int .i64 e] w (OwnLB w (mRingPower0 f l e) (mRingPower1 f l e)) := by
  have hV := iVectorOk f a l cap w hn hs ht
  by_cases h : VecOk f l
  · rw [vok_iff.2 h] at hV
    have HV := Lib.hid hV
    by_cases he : 0 ≤ e ∧ e ≤ 1000000
    · have h0 : mRingPower0 f l e = sqS f (oneL l.length) l e.toNat := by unfold mRingPower0; rw [if_pos ⟨h, he⟩]
      have h1 : mRingPower1 f l e = true := by simp only [mRingPower1, decide_eq_true_eq]; exact ⟨h, he⟩
      rw [h0, h1]
      have d1 : decide (e < 0) = false := decide_eq_false (by omega)
      have d2 : decide (1000000 < e) = false := decide_eq_false (by omega)
      have HO : Hid (∀ W, Below w.heap.size w W → Calls Tryd.prog 73 #[.agg #[.int .i64 f, .slice a l.length cap], .int .i64 e] W (OwnVec f W (sqS f (oneL l.length) l e.toNat))) := Lib.hid fun W hb => ringPower_c f e a l cap W (ht.below hb) h he.1 he.2 (hs.keep hb)
      clear hs h hV h0 h1
      generalize sqS f (oneL l.length) l e.toNat = R at *
      have hfe := field_el
      have hfv := field_vec
      go_enter Tryd.func34, Tryd.ntmps34
      go_wp2_with fail
      refine HV.out.mono ?_
      rintro e w' ⟨rfl, rfl⟩
      go_wp2_with fail
      refine (ringOf_c f a l.length cap w).mono ?_
      rintro e w1 ⟨rfl, b1⟩
      go_wp2_with fail
      refine (HO.out w1 b1).mono ?_
      rintro e w2 h2
      obtain ⟨g2, rfl, h3⟩ := h2.to b1
      obtain ⟨a6, c6, he6, o6, b6⟩ := h3
      cases he6
      have HF : Hid (OwnLB w R true (.returned (.tuple #[.slice (some ⟨g2, 0, none⟩) R.length R.length, .bool true])) w2) := Lib.hid ⟨_, _, rfl, o6, b6⟩
      clear o6 b6 h2 HV HO
      go_wp2
      go_ret2
      exact HF.out
    · have h0 : mRingPower0 f l e = [] := by unfold mRingPower0; rw [if_neg fun x => he x.2]
      have h1 : mRingPower1 f l e = false := by simp only [mRingPower1, decide_eq_false_iff_not]; exact fun x => he x.2
      rw [h0, h1]
      by_cases hb1 : e < 0
      · have d1 : decide (e < 0) = true := decide_eq_true hb1
        clear hs h hV h0 h1 he
        go_enter Tryd.func34, Tryd.ntmps34
        go_wp2_with fail
        refine HV.out.mono ?_
        rintro e w' ⟨rfl, rfl⟩
        go_wp2
        go_ret2
        exact ⟨none, 0, rfl, OwnA.nil rfl, Below.refl _ _⟩
      · have d1 : decide (e < 0) = false := decide_eq_false hb1
        have d2 : decide (1000000 < e) = true := decide_eq_true (by omega)
        clear hs h hV h0 h1 he
        go_enter Tryd.func34, Tryd.ntmps34
        go_wp2_with fail
        refine HV.out.mono ?_
        rintro e w' ⟨rfl, rfl⟩
        go_wp2
        go_ret2
        exact ⟨none, 0, rfl, OwnA.nil rfl, Below.refl _ _⟩
  · rw [vok_not.2 h] at hV
    have h0 : mRingPower0 f l e = [] := by unfold mRingPower0; rw [if_neg fun x => h x.1]
    have h1 : mRingPower1 f l e = false := by simp only [mRingPower1, decide_eq_false_iff_not]; exact fun x => h x.1
    rw [h0, h1]
    have HV := Lib.hid hV
    clear hs h h0 h1 hV
    go_enter Tryd.func34, Tryd.ntmps34
    go_wp2_with fail
    refine HV.out.mono ?_
    rintro e w' ⟨rfl, rfl⟩
    go_wp2
    go_ret2
    exact ⟨none, 0, rfl, OwnA.nil rfl, Below.refl _ _⟩
end Go.Proofs.YtoonpnfhcmghmaaDoor
namespace Go.Proofs.YtoonpnfhcmghmaaDoor
open Mth
theorem mAut_on {f : Int} {l : List Int} (h : VecOk f l) {g : Int} (hg : g % 2 ≠ 0) : mAutomorph f l g = autL f l (expN l.length g) := by unfold mAutomorph; rw [if_pos ⟨h, hg⟩]
theorem mTwi_on {f : Int} {l m : List Int} (h : TwoOk f l m) : mTwisted f l m = twiL f l m := by unfold mTwisted; rw [if_pos h]
theorem inv_facts {f : Int} {l : List Int} (h : OpenOk f l) (hz : nmL f l ≠ 0) :
    mRingInverse1 f l = true ∧ mRingPower1 f l 3 = true ∧ mTwisted f l (mRingInverse0 f l) = oneL l.length ∧ mRingPower0 f l 3 = mTwisted f (mTwisted f l l) l := by
  have hb := h.to h.1.ov.biv ((bivL_len _ _).trans (ovL_len f l))
  have e0 : mRingInverse0 f l = obL f (bivL f (ovL f l)) := by unfold mRingInverse0; rw [if_pos ⟨h, hz⟩]
  have hlen : (obL f (bivL f (ovL f l))).length = l.length := by rw [obL_len, bivL_len, ovL_len]
  refine ⟨by simp only [mRingInverse1, decide_eq_true_eq]; exact ⟨h, hz⟩, by simp only [mRingPower1, decide_eq_true_eq]; exact ⟨h.1, by omega, by omega⟩, ?_, ?_⟩
  · rw [e0, mTwi_on ⟨hlen.symm, h.1, hb.1.ob⟩]
    exact ringInv_one h hz
  · have e1 : mRingPower0 f l 3 = sqS f (oneL l.length) l 3 := by unfold mRingPower0; rw [if_pos ⟨h.1, by omega, by omega⟩]; rfl
    rw [e1, mTwi_on ⟨rfl, h.1, h.1⟩, mTwi_on ⟨twiL_len f l l, h.1.twi, h.1⟩]
    exact ringCube h
end Go.Proofs.YtoonpnfhcmghmaaDoor
namespace Go.Proofs.YtoonpnfhcmghmaaDoor
open Go.RowKit
def tsL (f : Int) (l : List Int) (k : Nat) : List Int := tab l.length (tsF f l k)
theorem tsL_len (f : Int) (l : List Int) (k : Nat) : (tsL f l k).length = l.length := tab_len _ _
theorem tsL_end {f : Int} {l : List Int} (h : VecOk f l) : tsL f l l.length = trL f l := by
  refine list_ext (by rw [tsL_len, trL_len]) fun t ht => ?_
  rw [tsL_len] at ht
  rw [← ts_end h ht]
  unfold tsL
  rw [lf_tab, if_pos ht]
theorem VecOk.ts {f : Int} {l : List Int} (h : VecOk f l) (k : Nat) : VecOk f (tsL f l k) := h.tab rfl _ fun _ _ => ts_bd h _ _
theorem ts_plus {f : Int} {l : List Int} (k : Nat) : elL f l.length (mixS (lf (tsL f l k)) (lf (autL f l (2 * k + 1))) 1) = tsL f l (k + 1) := by
  refine list_ext (by rw [elL_len, tsL_len]) fun t ht => ?_
  rw [elL_len] at ht
  rw [lf_elL, if_pos ht]
  unfold tsL
  rw [lf_tab, if_pos ht, ← ts_step ht]
  unfold mixS
  rw [lf_tab, if_pos ht, Int.one_mul]
set_option maxRecDepth 100000 in
set_option maxHeartbeats 3200000 in
theorem plus_c (f : Int) (a a2 : Option Addr) (l m : List Int) (cap cap2 : Nat) (w : World) (ht : Tab w) (h : TwoOk f l m) (hs : Src w a l.length (lf l)) (hs2 : Src w a2 m.length (lf m)) : Calls Tryd.prog 106 #[.agg #[.int .i64 f, .slice a l.length cap], .agg #[.int .i64 f, .slice a2 m.length cap2]] w (OwnVec f w (elL f l.length (mixS (lf l) (lf m) 1))) := by
  have hp := P_bd h.2.1.f08.1 h.2.1.f08.2
  have HTW : Hid (∀ W, Below w.heap.size w W → Calls Tryd.prog 86 #[.int .i64 f, .slice a l.length cap, .slice a2 m.length cap2, .int .i64 1] W (OwnG W (elL f l.length (mixS (lf l) (lf m) 1)))) := Lib.hid fun W hb => by
    have hl := h.2.1.pos
    have := mixed_c f 1 a a2 l.length cap cap2 (lf l) (lf m) W (ht.below hb) h.2.1.f08.1 h.2.1.f08.2 (by omega) (by omega) hl.1 (by omega) h.2.1.lt h.2.2.lt (hs.keep hb) (by rw [h.1]; exact hs2.keep hb)
    rw [← h.1]
    exact this
  clear hs hs2 h ht hp
  generalize elL f l.length (mixS (lf l) (lf m) 1) = R at *
  generalize l.length = n at *
  generalize m.length = n2 at *
  obtain ⟨t0, t1, hb1⟩ := two_start8 w (.int .i64 f) (.slice a n cap) (.int .i64 f) (.slice a2 n2 cap2) 56 56
  have hz : ((w.alloc (.cells #[.int .i64 f, .slice a n cap] 56)).alloc (.cells #[.int .i64 f, .slice a2 n2 cap2] 56)).heap.size = w.heap.size + 2 := by simp
  generalize hV : ((w.alloc (.cells #[.int .i64 f, .slice a n cap] 56)).alloc (.cells #[.int .i64 f, .slice a2 n2 cap2] 56)) = V at *
  have t2 := twoB_new V (.int .i64 0) (.slice none 0 0) 56
  have hb2 := below_alloc V (.cells #[.int .i64 0, .slice none 0 0] 56)
  have t0' := t0.keep hb2 t0.lt
  have t1' := t1.keep hb2 t1.lt
  have hbw := below_up hb1 hb2 hb1.size
  rw [hz] at t2
  rw [← hV] at t0' t1' t2 hbw
  have HK := Lib.hid (FourT.mk t0'.c t1'.c)
  have HB2 := Lib.hid t2
  clear t0 t1 t2 t0' t1' hb1 hb2 hz hV
  go_enter Tryd.func106, Tryd.ntmps106
  go_wp2_with fail
  generalize (((w.alloc (.cells #[.int .i64 f, .slice a n cap] 56)).alloc (.cells #[.int .i64 f, .slice a2 n2 cap2] 56)).alloc (.cells #[.int .i64 0, .slice none 0 0] 56)) = W0 at *
  have kk := HK.out
  have kkd : FourT w.heap.size (w.heap.size + 1) (.int .i64 f) (.slice a n cap) (.int .i64 f) (.slice a2 n2 cap2) W0.drew := kk
  have c3d : Below w.heap.size w W0.drew := hbw.drew
  have r3d : TwoB (w.heap.size + 2) (.int .i64 0) (.slice none 0 0) 56 W0.drew := HB2.out
  have l3d := r3d.lt
  have HPP := Lib.hid (HTW.out _ c3d)
  clear HTW
  go_region_held3 (fun W => W.cell? ⟨w.heap.size, 0, none⟩ = some (.int .i64 f) ∧ W.cell? ⟨w.heap.size, 1, none⟩ = some (.slice a n cap) ∧ W.cell? ⟨w.heap.size + 1, 0, none⟩ = some (.int .i64 f) ∧ W.cell? ⟨w.heap.size + 1, 1, none⟩ = some (.slice a2 n2 cap2))
    (first | exact kk | exact kkd | exact kk4 | exact kk4.store2 _ _ (by omega) (by omega) | go_keep)
    (first
      | (go_at_call 86; refine HPP.out.mono ?_; rintro e w4 ⟨g4, rfl, hg4, o4, b4⟩; have kk4 := kkd.keep b4 (by omega) (by omega); have c4 := below_up c3d b4 c3d.size; have r4 := r3d.keep b4 l3d; have rr0 := r4.c.1; have rr1 := r4.c.2; have rf0 := heap_frozen (j := 0) r4; have rf1 := heap_frozen (j := 1) r4; have ne4 : g4 ≠ w.heap.size + 2 := (by omega); have HO4 := Lib.hid o4))
  obtain ⟨e0, e1⟩ := store_cells (u := .int .i64 f) (v := .slice (some ⟨g4, 0, none⟩) R.length R.length) r4
  have HF : Hid (OwnVec f w R (.returned (.agg #[.int .i64 f, .slice (some ⟨g4, 0, none⟩) R.length R.length])) ((w4.setCell ⟨w.heap.size + 2, 0, none⟩ (.int .i64 f)).setCell ⟨w.heap.size + 2, 1, none⟩ (.slice (some ⟨g4, 0, none⟩) R.length R.length))) := Lib.hid ⟨g4, rfl, Nat.le_trans c3d.size hg4, own_store HO4.out ne4, below_store c4 (by omega)⟩
  clear kk kkd kk4 r4 rr0 rr1 rf0 rf1 HO4 c4 c3d b4 r3d
  generalize ((w4.setCell ⟨w.heap.size + 2, 0, none⟩ (.int .i64 f)).setCell ⟨w.heap.size + 2, 1, none⟩ (.slice (some ⟨g4, 0, none⟩) R.length R.length)) = W5 at *
  go_wp2
  refine bodyPost_ret (v := .agg #[.int .i64 f, .slice (some ⟨g4, 0, none⟩) R.length R.length]) (by simp [results, Tryd.results106, go_sem, *]) rfl ?_
  exact HF.out
/-- The automorphism by the i-th odd number, as a function value. -/
def autV (i : Nat) : Value := .func (.func 54) #[.int .i64 (2 * (i : Int) + 1)] #[]
theorem infoAut : (Tryd.prog.info? 92).map (fun i => (i.zero, i.size, i.bytes)) = some (some .nilFunc, 1, 8) := by kernel_rfl
theorem made_aut (n : Nat) (hn : n ≤ 1048576) (w : World) : (Instr.makeSlice 90 (.int .i64 (n : Int)) (.int .i64 (n : Int))).run Tryd.prog w = .ok (.slice (some ⟨w.heap.size, 0, none⟩) n n) (w.alloc (.cells (madeCells #[.nilFunc] n) 92)) :=
  run_make_row' (P := Tryd.prog) 90 92 .nilFunc 8 Tryd.underlying90 infoAut rfl .i64 .i64 n (by omega) (by omega) w
set_option maxRecDepth 100000 in
set_option maxHeartbeats 1600000 in
theorem auts_c (n : Nat) (w : World) (hn : n ≤ 512) : Calls Tryd.prog 105 #[.int .i64 n] w (fun e w' => e = .returned (.slice (some ⟨w.heap.size, 0, none⟩) n n) ∧ w'.rowIs w.heap.size 92 n autV ∧ Below w.heap.size w w') := by
  have hmf : ∀ (fn : Fn) (first cap : Array Value) (w : World), (Instr.makeFunc fn first cap).run Tryd.prog w = .ok (.func fn first cap) w := fun _ _ _ _ => rfl
  have hmk := made_aut n (by omega)
  go_enter Tryd.func105, Tryd.ntmps105
  go_wp2_with fail
  clear hmk
  go_loopw [4, 9] (fun _ i wr => ∃ j : Nat, i = .int .i64 j ∧ j ≤ n ∧ wr.rowIs w.heap.size 92 n (fun x => if x < j then autV x else .nilFunc) ∧ Below w.heap.size w wr) (fun _ i _ => n - (intOf i).toNat)
  case atStart =>
    refine ⟨0, rfl, Nat.zero_le _, ?_, (Below.refl _ _).alloc (Nat.le_refl _) _⟩
    exact (World.rowIs_made w .nilFunc n 92).congr fun j _ => by simp
  case round =>
    obtain ⟨j, rfl, hj, ho, hb⟩ := hrel
    by_cases h1 : j < n
    · have hd1 : decide ((j : Int) < n) = true := decide_eq_true (by omega)
      have HS : Hid ((wr.setCell ⟨w.heap.size, j, none⟩ (.func (.func 54) #[.int .i64 (2 * (j : Int) + 1)] #[])).rowIs w.heap.size 92 n (fun x => if x < j + 1 then autV x else .nilFunc)) := Lib.hid ((World.rowIs.set ho j (autV j)).congr fun t _ => by
        by_cases h1 : t = j
        · subst h1; simp
        · simp only [if_neg h1]
          by_cases h2 : t < j
          · rw [if_pos h2, if_pos (by omega)]
          · rw [if_neg h2, if_neg (by omega)])
      have c3 := World.rowIs.cell ho h1
      have c4 := World.rowIs.frozen ho j
      clear ho
      simp only [Nat.lt_irrefl, if_false] at c3
      go_wp2
      go_roundw
      case rel => exact ⟨j + 1, by go_num, by omega, HS.out, hb.setCell (Nat.le_refl _) _⟩
      case measure => simp [intOf]; omega
    · have hd : decide (j < n) = false := by simpa using h1
      obtain rfl : j = n := by omega
      go_wp2
      go_ret
      exact ⟨rfl, World.rowIs.congr ho (fun x hx => by simp [hx]), hb⟩
end Go.Proofs.YtoonpnfhcmghmaaDoor
namespace Go.Proofs.YtoonpnfhcmghmaaDoor
open Go.RowKit
theorem TwoC.al {s : Nat} {u v : Value} {W : World} (k : TwoC s u v W) (hs : s < W.heap.size) (o : Obj) : TwoC s u v (W.alloc o) := k.keep (below_alloc W o) hs
theorem TwoC.al2 {s : Nat} {u v : Value} {W : World} (k : TwoC s u v W) (hs : s < W.heap.size) (o o2 : Obj) : TwoC s u v ((W.alloc o).alloc o2) := (k.al hs o).al (by have := (below_alloc W o).size; omega) o2
/-- Half way of the trace: the sum is a struct with a list of zeros. -/
def MidT (w wr : World) (p g n cap : Nat) (f : Int) (a : Option Addr) (t t2 : TypeId) : Prop :=
  TwoB w.heap.size (.int .i64 f) (.slice a n cap) t2 wr ∧ TwoB (w.heap.size + 1) (.int .i64 0) (.slice none 0 0) t wr ∧ TwoB p (.int .i64 f) (.slice (some ⟨g, 0, none⟩) n n) t wr ∧ Own wr g n (fun _ => 0) ∧ w.heap.size + 1 < p ∧ w.heap.size + 1 < g ∧ g ≠ p ∧ Below w.heap.size w wr
theorem MidT.a {w V : World} {p g n cap : Nat} {f : Int} {a : Option Addr} {t t2 : TypeId} (hp : V.heap.size = p) (r0 : TwoB w.heap.size (.int .i64 f) (.slice a n cap) t2 V) (r1 : TwoB (w.heap.size + 1) (.int .i64 0) (.slice none 0 0) t V) (ho : Own V g n (fun _ => 0)) (hg : w.heap.size + 1 < g) (hb : Below w.heap.size w V) :
    MidT w (V.alloc (.cells #[.int .i64 f, .slice (some ⟨g, 0, none⟩) n n] t)) p g n cap f a t t2 := by
  subst hp
  have hb2 := below_alloc V (.cells #[.int .i64 f, .slice (some ⟨g, 0, none⟩) n n] t)
  have h1 := r1.lt
  have h2 := ho.lt
  exact ⟨r0.keep hb2 r0.lt, r1.keep hb2 h1, twoB_new V _ _ t, ho.keep hb2, h1, hg, by omega, below_up hb hb2 hb.size⟩
theorem MidT.b {w V : World} {p g n cap : Nat} {f : Int} {a : Option Addr} {t t2 : TypeId} {x y : Value} (q : TwoB p x y t V) (hp : w.heap.size + 1 < p) (hgp : g ≠ p) (r0 : TwoB w.heap.size (.int .i64 f) (.slice a n cap) t2 V) (r1 : TwoB (w.heap.size + 1) (.int .i64 0) (.slice none 0 0) t V) (ho : Own V g n (fun _ => 0)) (hg : w.heap.size + 1 < g) (hb : Below w.heap.size w V) :
    MidT w ((V.setCell ⟨p, 0, none⟩ (.int .i64 f)).setCell ⟨p, 1, none⟩ (.slice (some ⟨g, 0, none⟩) n n)) p g n cap f a t t2 :=
  ⟨r0.other (by omega), r1.other (by omega), store_block q, own_store ho hgp, hp, hg, hgp, below_store hb (by omega)⟩
theorem TwoB.al {s : Nat} {u v : Value} {t : TypeId} {W : World} (k : TwoB s u v t W) (o : Obj) : TwoB s u v t (W.alloc o) := k.keep (below_alloc W o) k.lt
theorem twoB_after (W : World) (o : Obj) (u v : Value) (t : TypeId) : TwoB (W.heap.size + 1) u v t ((W.alloc o).alloc (.cells #[u, v] t)) := by
  have h := twoB_new (W.alloc o) u v t
  rwa [World.size_alloc] at h
theorem zero_row (W : World) (n : Nat) : Own (W.alloc (.cells (madeCells #[.int .i64 0] n) 3)) W.heap.size n (fun _ => 0) := (World.rowIs_made W (.int .i64 0) n 3).congr fun _ _ => rfl
theorem MidT.d {w V : World} {n cap : Nat} {f : Int} {a : Option Addr} {t t2 : TypeId} (r0 : TwoB w.heap.size (.int .i64 f) (.slice a n cap) t2 V) (r1 : TwoB (w.heap.size + 1) (.int .i64 0) (.slice none 0 0) t V) (hb : Below w.heap.size w V) :
    MidT w ((V.alloc (.cells #[.int .i64 f, .slice (some ⟨V.heap.size + 1, 0, none⟩) n n] t)).alloc (.cells (madeCells #[.int .i64 0] n) 3)) V.heap.size (V.heap.size + 1) n cap f a t t2 := by
  have h1 := r1.lt
  have hz : (V.alloc (.cells #[.int .i64 f, .slice (some ⟨V.heap.size + 1, 0, none⟩) n n] t)).heap.size = V.heap.size + 1 := by simp
  have ho := zero_row (V.alloc (.cells #[.int .i64 f, .slice (some ⟨V.heap.size + 1, 0, none⟩) n n] t)) n
  rw [hz] at ho
  have b1 := below_up hb (below_alloc V (.cells #[.int .i64 f, .slice (some ⟨V.heap.size + 1, 0, none⟩) n n] t)) hb.size
  exact ⟨(r0.al _).al _, (r1.al _).al _, (twoB_new V _ _ t).al _, ho, h1, by omega, by omega, below_up b1 (below_alloc _ _) b1.size⟩
theorem MidT.c {w V : World} {p n cap : Nat} {f : Int} {a : Option Addr} {t t2 : TypeId} {x y : Value} (q : TwoB p x y t V) (hp : w.heap.size + 1 < p) (r0 : TwoB w.heap.size (.int .i64 f) (.slice a n cap) t2 V) (r1 : TwoB (w.heap.size + 1) (.int .i64 0) (.slice none 0 0) t V) (hb : Below w.heap.size w V) :
    MidT w (((V.setCell ⟨p, 0, none⟩ (.int .i64 f)).setCell ⟨p, 1, none⟩ (.slice (some ⟨V.heap.size, 0, none⟩) n n)).alloc (.cells (madeCells #[.int .i64 0] n) 3)) p V.heap.size n cap f a t t2 := by
  have h1 := r1.lt
  have h2 := q.lt
  have hz : ((V.setCell ⟨p, 0, none⟩ (.int .i64 f)).setCell ⟨p, 1, none⟩ (.slice (some ⟨V.heap.size, 0, none⟩) n n)).heap.size = V.heap.size := by simp
  have ho := zero_row ((V.setCell ⟨p, 0, none⟩ (.int .i64 f)).setCell ⟨p, 1, none⟩ (.slice (some ⟨V.heap.size, 0, none⟩) n n)) n
  rw [hz] at ho
  have b1 := below_store (R := p) (u := .int .i64 f) (v := .slice (some ⟨V.heap.size, 0, none⟩) n n) hb (by omega)
  exact ⟨(r0.other (by omega)).al _, (r1.other (by omega)).al _, (store_block q).al _, ho, hp, by omega, by omega, below_up b1 (below_alloc _ _) b1.size⟩
set_option maxRecDepth 100000 in
set_option maxHeartbeats 6400000 in
theorem trace_c (f : Int) (a : Option Addr) (l : List Int) (cap : Nat) (w : World) (ht : Tab w) (h : VecOk f l) (hs : Src w a l.length (lf l)) : Calls Tryd.prog 60 #[.agg #[.int .i64 f, .slice a l.length cap]] w (OwnVec f w (trL f l)) := by
  have hn0 := h.pos.1
  have hn5 := h.pos.2
  have HSUB : Hid (∀ (k : Nat) W, k < l.length → Below w.heap.size w W → Calls Tryd.prog 54 #[.int .i64 (2 * (k : Int) + 1), .agg #[.int .i64 f, .slice a l.length cap]] W (OwnVec f W (autL f l (2 * k + 1)))) := Lib.hid fun k W hk hb => by
    have := substitute_c f (2 * (k : Int) + 1) a l cap W (ht.below hb) h (by omega) (hs.keep hb)
    have e : expN l.length (2 * (k : Int) + 1) = 2 * k + 1 := expN_small (n := l.length) (b := 2 * k + 1) (by omega)
    rwa [e] at this
  have HPL : Hid (∀ (k gS g2 : Nat) W, Below w.heap.size w W → Own W gS (tsL f l k).length (lf (tsL f l k)) → Own W g2 (autL f l (2 * k + 1)).length (lf (autL f l (2 * k + 1))) → Calls Tryd.prog 106 #[.agg #[.int .i64 f, .slice (some ⟨gS, 0, none⟩) (tsL f l k).length (tsL f l k).length], .agg #[.int .i64 f, .slice (some ⟨g2, 0, none⟩) (autL f l (2 * k + 1)).length (autL f l (2 * k + 1)).length]] W (OwnVec f W (tsL f l (k + 1)))) := Lib.hid fun k gS g2 W hb h1 h2 => by
    have := plus_c f (some ⟨gS, 0, none⟩) (some ⟨g2, 0, none⟩) (tsL f l k) (autL f l (2 * k + 1)) (tsL f l k).length (autL f l (2 * k + 1)).length W (ht.below hb) ⟨(tsL_len _ _ _).trans (autL_len _ _ _).symm, h.ts k, h.aut _⟩ h1.src h2.src
    rw [show elL f (tsL f l k).length (mixS (lf (tsL f l k)) (lf (autL f l (2 * k + 1))) 1) = tsL f l (k + 1) by rw [tsL_len]; exact ts_plus k] at this
    exact this
  have HE0 := Lib.hid (tsL_end h)
  have HTL := Lib.hid (tsL_len f l)
  have HAL := Lib.hid (autL_len f l)
  have HZ0 : Hid (∀ W g, Own W g l.length (fun _ => 0) → Own W g l.length (lf (tsL f l 0))) := Lib.hid fun W g ho => World.rowIs.congr ho fun t htt => by
    unfold tsL
    rw [lf_tab, if_pos htt, ts_zero]
  have HE : Hid (∀ args W, (callFunc 54 args).run Tryd.prog W = .ok (.enter 54 args) W) := Lib.hid fun args W => enters_of Tryd.func54 (by kernel_rfl) rfl args W
  clear hs h ht
  generalize trL f l = R at *
  generalize tsL f l = TS at *
  generalize autL f l = AU at *
  generalize l.length = n at *
  obtain ⟨t0, t1, hb2⟩ := two_start8 w (.int .i64 f) (.slice a n cap) (.int .i64 0) (.slice none 0 0) 58 56
  have HB0 := Lib.hid t0
  have HB1 := Lib.hid t1
  clear t0 t1
  have hmk := made_n n (by omega)
  go_enter Tryd.func60, Tryd.ntmps60
  go_wp2_with fail
  generalize ((w.alloc (.cells #[.int .i64 f, .slice a n cap] 58)).alloc (.cells #[.int .i64 0, .slice none 0 0] 56)) = W0 at *
  go_cut [3] from 6 (fun p wr => ∃ p3 g3, p = .pointer (some ⟨p3, 0, none⟩) ∧ MidT w wr p3 g3 n cap f a 56 58)
  case first =>
    have kb := HB0.out.c
    have k0 : TwoC w.heap.size (.int .i64 f) (.slice a n cap) W0.drew := kb.drew
    have q0 : TwoB w.heap.size (.int .i64 f) (.slice a n cap) 58 W0.drew := HB0.out
    have hbd : Below w.heap.size w W0.drew := hb2.drew
    have r0 : TwoB (w.heap.size + 1) (.int .i64 0) (.slice none 0 0) 56 W0.drew := HB1.out
    have hl0 : w.heap.size + 1 < W0.drew.heap.size := r0.lt
    have hba := below_alloc W0 (.cells #[.int .i64 0, .slice none 0 0] 56)
    have hlb : w.heap.size + 1 < W0.heap.size := HB1.out.lt
    have qa : TwoB w.heap.size (.int .i64 f) (.slice a n cap) 58 (W0.alloc (.cells #[.int .i64 0, .slice none 0 0] 56)).drew := (show TwoB _ _ _ _ (W0.alloc (.cells #[.int .i64 0, .slice none 0 0] 56)) from HB0.out.keep hba (by have := HB0.out.lt; omega))
    have ka := qa.c
    have ra : TwoB (w.heap.size + 1) (.int .i64 0) (.slice none 0 0) 56 (W0.alloc (.cells #[.int .i64 0, .slice none 0 0] 56)).drew := (show TwoB _ _ _ _ (W0.alloc (.cells #[.int .i64 0, .slice none 0 0] 56)) from HB1.out.keep hba hlb)
    have hbda : Below w.heap.size w (W0.alloc (.cells #[.int .i64 0, .slice none 0 0] 56)).drew := (below_up hb2 hba hb2.size).drew
    have ya : TwoB W0.heap.size (.int .i64 0) (.slice none 0 0) 56 (W0.alloc (.cells #[.int .i64 0, .slice none 0 0] 56)).drew := (show TwoB W0.heap.size (.int .i64 0) (.slice none 0 0) 56 (W0.alloc (.cells #[.int .i64 0, .slice none 0 0] 56)) from twoB_new W0 (.int .i64 0) (.slice none 0 0) 56)
    have hla := ra.lt
    have hya := ya.lt
    go_region_held3 (fun W => W.cell? ⟨w.heap.size, 0, none⟩ = some (.int .i64 f) ∧ W.cell? ⟨w.heap.size, 1, none⟩ = some (.slice a n cap))
      (first | exact kb | exact k0 | exact ka | exact k1 | exact k1.al (by omega) _ | exact k1.al2 (by omega) _ _ | exact (k1.al2 (by omega) _ _).store2 _ _ (by omega) | exact (k1.al (by omega) _).store2 _ _ (by omega) | exact (k1.store2 _ _ (by omega)).al (by simp; omega) _ | go_keep)
      (first
        | (go_at_call 101; refine (size8_c f a n cap _).mono ?_; rintro e w1 ⟨rfl, b1⟩; have q1 : TwoB w.heap.size (.int .i64 f) (.slice a n cap) 58 w1 := (by first | exact q0.keep b1 (by omega) | exact qa.keep b1 (by omega)); have k1 := q1.c; have c1 : Below w.heap.size w w1 := (by first | exact below_up hbd b1 hbd.size | exact below_up hbda b1 hbda.size); have r1 : TwoB (w.heap.size + 1) (.int .i64 0) (.slice none 0 0) 56 w1 := (by first | exact r0.keep b1 hl0 | exact ra.keep b1 hla); have l1 := r1.lt; (try have y1 := ya.keep b1 hya); (try have yl1 := y1.lt); (try have yc0 := y1.c.1); (try have yc1 := y1.c.2); (try have yf0 := heap_frozen (j := 0) y1); (try have yf1 := heap_frozen (j := 1) y1); have z1 := (twoB_new w1 (.int .i64 0) (.slice none 0 0) 56).al (.cells (madeCells #[.int .i64 0] n) 3); have zc0 := z1.c.1; have zc1 := z1.c.2; have zf0 := heap_frozen (j := 0) z1; have zf1 := heap_frozen (j := 1) z1; have x1 := twoB_after w1 (.cells (madeCells #[.int .i64 0] n) 3) (.int .i64 0) (.slice none 0 0) 56; have xc0 := x1.c.1; have xc1 := x1.c.2; have xf0 := heap_frozen (j := 0) x1; have xf1 := heap_frozen (j := 1) x1))
    all_goals (go_wp2_with fail; go_meet)
    all_goals first
      | exact ⟨_, w1.heap.size, rfl, MidT.a (by simp) (q1.al _) (r1.al _) (zero_row w1 n) (by omega) (below_up c1 (below_alloc _ _) c1.size)⟩
      | exact ⟨_, _, rfl, MidT.d q1 r1 c1⟩
      | exact ⟨_, _, rfl, MidT.c y1 (by omega) q1 r1 c1⟩
  case rest =>
    obtain ⟨p3, g3, rfl, r0, r1, r3, o3, hp3, hg3, hgp, hb3⟩ := hcut
    have HR0 := Lib.hid r0
    have HR1 := Lib.hid r1
    have HR3 := Lib.hid r3
    have HO3 := Lib.hid (HZ0.out wc g3 o3)
    obtain ⟨k0, k1⟩ := r0.c
    have hl0 := r0.lt
    have hl1 := r1.lt
    have hl3 := r3.lt
    have hlg := o3.lt
    clear r0 r1 r3 o3 hmk HB0 HB1 hb2
    go_wp2_with fail
    refine (size8_c f a n cap wc).mono ?_
    rintro e w1 ⟨rfl, b1⟩
    have c1 := below_up hb3 b1 hb3.size
    go_wp2_with fail
    refine (auts_c n w1 hn5).mono ?_
    rintro e w2 ⟨rfl, hA, b2⟩
    have b12 := below_up b1 b2 b1.size
    have HA := Lib.hid hA
    have hlA := b1.size
    clear hA k0 k1 b1 c1
    go_wp2_with fail
    go_loopw [5, 19] (fun _ i wr => ∃ (k gS : Nat), i = .int .i64 k ∧ k ≤ n ∧ Hid (TwoB w.heap.size (.int .i64 f) (.slice a n cap) 58 wr) ∧ Hid (TwoB (w.heap.size + 1) (.int .i64 0) (.slice none 0 0) 56 wr) ∧ Hid (TwoB p3 (.int .i64 f) (.slice (some ⟨gS, 0, none⟩) n n) 56 wr) ∧ Hid (Own wr gS n (lf (TS k))) ∧ Hid (wr.rowIs w1.heap.size 92 n autV) ∧ w1.heap.size < wr.heap.size ∧ gS ≠ p3 ∧ w.heap.size + 1 < gS ∧ Below w.heap.size w wr) (fun _ i _ => n - (intOf i).toNat)
    case atStart => exact ⟨0, g3, rfl, Nat.zero_le _, Lib.hid (HR0.out.keep b12 hl0), Lib.hid (HR1.out.keep b12 hl1), Lib.hid (HR3.out.keep b12 hl3), Lib.hid (HO3.out.keep b12), HA, HA.out.lt, hgp, hg3, below_up hb3 b12 hb3.size⟩
    case round =>
      clear HR0 HR1 HR3 HO3 HA b12 hgp hg3 hb3 b2
      obtain ⟨k, gS, rfl, hk, HR0, HR1, HR3, HOS, HA, hlw, hgp, hgs, hb⟩ := hrel
      by_cases h1 : k < n
      · have hd1 : decide ((k : Int) < n) = true := decide_eq_true (by omega)
        have cA := World.rowIs.cell HA.out h1
        unfold autV at cA
        have hRd : TwoB p3 (.int .i64 f) (.slice (some ⟨gS, 0, none⟩) n n) 56 wr.drew := HR3.out
        have h0d : TwoB w.heap.size (.int .i64 f) (.slice a n cap) 58 wr.drew := HR0.out
        have h1d : TwoB (w.heap.size + 1) (.int .i64 0) (.slice none 0 0) 56 wr.drew := HR1.out
        have hbd : Below w.heap.size w wr.drew := hb.drew
        have kk := FourT.mk HR0.out.c HR3.out.c
        have kkd : FourT w.heap.size p3 (.int .i64 f) (.slice a n cap) (.int .i64 f) (.slice (some ⟨gS, 0, none⟩) n n) wr.drew := kk
        have HSUBk : Hid (Calls Tryd.prog 54 #[.int .i64 (2 * (k : Int) + 1), .agg #[.int .i64 f, .slice a n cap]] wr.drew (fun e w' => ∃ g4, e = .returned (.agg #[.int .i64 f, .slice (some ⟨g4, 0, none⟩) n n]) ∧ wr.drew.heap.size ≤ g4 ∧ Own w' g4 n (lf (AU (2 * k + 1))) ∧ Below wr.drew.heap.size wr.drew w')) := Lib.hid ((HSUB.out k wr.drew h1 hbd).mono fun e w' ⟨g4, he, hg, ho, hb2⟩ => by
          rw [HAL.out] at he ho
          exact ⟨g4, he, hg, ho, hb2⟩)
        have HPLk : Hid (∀ (g4 : Nat) (W : World), Below w.heap.size w W → Own W gS n (lf (TS k)) → Own W g4 n (lf (AU (2 * k + 1))) → Calls Tryd.prog 106 #[.agg #[.int .i64 f, .slice (some ⟨gS, 0, none⟩) n n], .agg #[.int .i64 f, .slice (some ⟨g4, 0, none⟩) n n]] W (fun e w' => ∃ g5, e = .returned (.agg #[.int .i64 f, .slice (some ⟨g5, 0, none⟩) n n]) ∧ W.heap.size ≤ g5 ∧ Own w' g5 n (lf (TS (k + 1))) ∧ Below W.heap.size W w')) := Lib.hid fun g4 W hbW h1 h2 => by
          have := HPL.out k gS g4 W hbW (by rw [HTL.out]; exact h1) (by rw [HAL.out]; exact h2)
          rw [HTL.out, HAL.out] at this
          refine this.mono fun e w' ⟨g5, he, hg, ho, hb2⟩ => ?_
          rw [HTL.out] at he ho
          exact ⟨g5, he, hg, ho, hb2⟩
        have hE1 := HE.out #[.int .i64 (2 * (k : Int) + 1), .agg #[.int .i64 f, .slice a n cap]] wr.drew
        have HOSd : Hid (Own wr.drew gS n (lf (TS k))) := HOS
        have HAd : Hid (wr.drew.rowIs w1.heap.size 92 n autV) := HA
        have hlwd : w1.heap.size < wr.drew.heap.size := hlw
        have hl3d := hRd.lt
        have hl0d := h0d.lt
        have hl1d := h1d.lt
        have hp31 : p3 < w1.heap.size := by omega
        have hfv := field_vec
        clear HSUB HPL HZ0 HE HE0 HTL HAL HR0 HR1 HR3
        go_wp2_with fail
        obtain ⟨d0, d1, d2, d3⟩ := kk
        obtain ⟨e0, e1, e2, e3⟩ := kkd
        have kkd : FourT w.heap.size p3 (.int .i64 f) (.slice a n cap) (.int .i64 f) (.slice (some ⟨gS, 0, none⟩) n n) wr.drew := ⟨e0, e1, e2, e3⟩
        go_region_with
          (first
            | (go_at_call 54; refine HSUBk.out.mono ?_; rintro e w4 ⟨g4, rfl, hg4, o4, b4⟩; have kk4 := kkd.keep b4 hl0d hl3d; have c4 := below_up hbd b4 hbd.size; have q0 := h0d.keep b4 hl0d; have q1 := h1d.keep b4 hl1d; have q3 := hRd.keep b4 hl3d; have oS4 := HOSd.out.keep b4; have A4 := World.rowIs.of_block HAd.out (b4.block _ hlwd); have z4 := b4.size; obtain ⟨y0, y1, y2, y3⟩ := kk4)
            | (go_at_call 106; refine (HPLk.out g4 _ c4 oS4 o4).mono ?_; rintro e w5 ⟨g5, rfl, hg5, o5, b5⟩; have c5 := below_up c4 b5 c4.size; have p0 := q0.keep b5 q0.lt; have p1 := q1.keep b5 q1.lt; have pp3 := q3.keep b5 q3.lt; have A5 := World.rowIs.of_block A4 (b5.block _ (by omega)); have rr0 := pp3.c.1; have rr1 := pp3.c.2; have rf0 := heap_frozen (j := 0) pp3; have rf1 := heap_frozen (j := 1) pp3; have HO5 := Lib.hid o5; have z5 := b5.size))
        all_goals
          have HREL : Hid (∃ (k2 gS2 : Nat), Value.int .i64 ((k : Int) + 1) = .int .i64 k2 ∧ k2 ≤ n ∧ Hid (TwoB w.heap.size (.int .i64 f) (.slice a n cap) 58 ((w5.setCell ⟨p3, 0, none⟩ (.int .i64 f)).setCell ⟨p3, 1, none⟩ (.slice (some ⟨g5, 0, none⟩) n n))) ∧ Hid (TwoB (w.heap.size + 1) (.int .i64 0) (.slice none 0 0) 56 ((w5.setCell ⟨p3, 0, none⟩ (.int .i64 f)).setCell ⟨p3, 1, none⟩ (.slice (some ⟨g5, 0, none⟩) n n))) ∧ Hid (TwoB p3 (.int .i64 f) (.slice (some ⟨gS2, 0, none⟩) n n) 56 ((w5.setCell ⟨p3, 0, none⟩ (.int .i64 f)).setCell ⟨p3, 1, none⟩ (.slice (some ⟨g5, 0, none⟩) n n))) ∧ Hid (Own ((w5.setCell ⟨p3, 0, none⟩ (.int .i64 f)).setCell ⟨p3, 1, none⟩ (.slice (some ⟨g5, 0, none⟩) n n)) gS2 n (lf (TS k2))) ∧ Hid (((w5.setCell ⟨p3, 0, none⟩ (.int .i64 f)).setCell ⟨p3, 1, none⟩ (.slice (some ⟨g5, 0, none⟩) n n)).rowIs w1.heap.size 92 n autV) ∧ w1.heap.size < ((w5.setCell ⟨p3, 0, none⟩ (.int .i64 f)).setCell ⟨p3, 1, none⟩ (.slice (some ⟨g5, 0, none⟩) n n)).heap.size ∧ gS2 ≠ p3 ∧ w.heap.size + 1 < gS2 ∧ Below w.heap.size w ((w5.setCell ⟨p3, 0, none⟩ (.int .i64 f)).setCell ⟨p3, 1, none⟩ (.slice (some ⟨g5, 0, none⟩) n n))) := Lib.hid ⟨k + 1, g5, by go_num, by omega, Lib.hid (p0.other (by omega)), Lib.hid (p1.other (by omega)), Lib.hid (store_block pp3), Lib.hid (own_store HO5.out (by omega)), Lib.hid (World.rowIs.of_block A5 ((Below.heap_setCell _ ⟨p3, 1, none⟩ _ _ (by show w1.heap.size ≠ p3; omega)).trans (Below.heap_setCell _ ⟨p3, 0, none⟩ _ _ (by show w1.heap.size ≠ p3; omega)))), by have hh := z5; simp; omega, by omega, by omega, below_store c5 (by omega)⟩
          clear d0 d1 d2 d3 e0 e1 e2 e3 kkd b4 b5 c4 c5 q0 q1 q3 oS4 A4 A5 y0 y1 y2 y3 p0 p1 pp3 rr0 rr1 rf0 rf1 HO5 o4 hE1 hRd h0d h1d hbd hb
          go_wp2
          go_roundw
        all_goals first
          | (refine Hid.out (Lib.hid ?_); exact HREL.out)
          | (simp [intOf]; omega)
      · have hd1 : decide ((k : Int) < n) = false := decide_eq_false (by omega)
        obtain rfl : k = n := by omega
        obtain ⟨z0, z1⟩ := HR3.out.c
        have r4 := HR1.out
        have rr0 := r4.c.1
        have rr1 := r4.c.2
        have rf0 := heap_frozen (j := 0) r4
        have rf1 := heap_frozen (j := 1) r4
        obtain ⟨e0, e1⟩ := store_cells (u := .int .i64 f) (v := .slice (some ⟨gS, 0, none⟩) k k) r4
        have HF : Hid (OwnVec f w R (.returned (.agg #[.int .i64 f, .slice (some ⟨gS, 0, none⟩) k k])) ((wr.setCell ⟨w.heap.size + 1, 0, none⟩ (.int .i64 f)).setCell ⟨w.heap.size + 1, 1, none⟩ (.slice (some ⟨gS, 0, none⟩) k k))) := Lib.hid (by
          have hRn : R.length = k := by rw [← HE0.out]; exact HTL.out k
          refine ⟨gS, by rw [hRn], by omega, ?_, below_store hb (by omega)⟩
          rw [hRn, ← HE0.out]
          exact own_store HOS.out (by omega))
        clear HR0 HR1 HR3 HOS HA r4 hb HSUB HPL HE HE0 HTL HAL HZ0
        go_wp2
        refine bodyPost_ret (v := .agg #[.int .i64 f, .slice (some ⟨gS, 0, none⟩) k k]) (by simp [results, Tryd.results60, go_sem, *]) rfl ?_
        exact HF.out
theorem iTrace (f : Int) (a : Option Addr) (l : List Int) (cap : Nat) (w : World) (hn : l.length ≤ 1048576) (hs : Src w a l.length (lf l)) (ht : Tab w) : Calls Tryd.prog 22 #[.int .i64 f, .slice a l.length cap] w (OwnL w (mTrace f l)) := by
  have hV := iVectorOk f a l cap w hn hs ht
  by_cases h : VecOk f l
  · rw [show mTrace f l = trL f l by unfold mTrace; rw [if_pos h]]
    rw [vok_iff.2 h] at hV
    have HV := Lib.hid hV
    have HO : Hid (∀ W, Below w.heap.size w W → Calls Tryd.prog 60 #[.agg #[.int .i64 f, .slice a l.length cap]] W (OwnVec f W (trL f l))) := Lib.hid fun W hb => trace_c f a l cap W (ht.below hb) h (hs.keep hb)
    clear hs h hV
    generalize trL f l = R at *
    have hfe := field_el
    go_enter Tryd.func22, Tryd.ntmps22
    go_wp2_with fail
    refine HV.out.mono ?_
    rintro e w' ⟨rfl, rfl⟩
    go_wp2_with fail
    refine (ringOf_c f a l.length cap w).mono ?_
    rintro e w1 ⟨rfl, b1⟩
    go_wp2_with fail
    refine (HO.out w1 b1).mono ?_
    rintro e w2 h2
    obtain ⟨g, rfl, h3⟩ := h2.to b1
    have HF := Lib.hid h3
    clear h3 HV HO h2
    go_wp2
    go_ret
    exact HF.out
  · rw [show mTrace f l = [] by unfold mTrace; rw [if_neg h]]
    rw [vok_not.2 h] at hV
    have HV := Lib.hid hV
    clear hs h hV
    go_enter Tryd.func22, Tryd.ntmps22
    go_wp2_with fail
    refine HV.out.mono ?_
    rintro e w' ⟨rfl, rfl⟩
    go_wp2
    go_ret
    exact nil_own w
end Go.Proofs.YtoonpnfhcmghmaaDoor
