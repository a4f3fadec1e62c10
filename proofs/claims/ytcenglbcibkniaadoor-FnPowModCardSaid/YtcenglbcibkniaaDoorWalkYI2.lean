/-
  Division of polynomials, the program's: the walk.
-/
import Derived.Test.YtcenglbcibkniaaDoorWalkYI
namespace Go.Proofs.YtcenglbcibkniaaDoor
open Go.RowKit
set_option maxRecDepth 100000 in
set_option maxHeartbeats 6400000 in
theorem divide_lt (f : Int) (a : Option Addr) (b2 off2 k : Nat) (l m : List Int) (cap cap2 : Nat) (w : World) (ht : Tab w) (h0 : 0 ≤ f) (h8 : f ≤ 8) (hn : l.length ≤ 4096) (hk : m.length = k + 1) (hk2 : k + 1 ≤ 4096) (hlt : l.length < k) (hl : Pol f l) (hm : Pol f m) (hs : Src w a l.length (lf l)) (hlt2 : b2 < w.heap.size) (hc2 : ∀ j, j < k + 1 → w.cell? ⟨b2, off2 + j, none⟩ = some (.int .i64 (lf m j))) :
    Calls Tryd.prog 32 #[.int .i64 f, .slice a l.length cap, .slice (some ⟨b2, off2, none⟩) (k + 1) cap2] w (DivR f l m w) := by
  have hp := P_bd h0 h8
  have HP := Lib.hid fun (w1 : World) (hb : Below w.heap.size w w1) => poly_c a l.length cap (lf l) w1 (by omega) (hs.keep hb)
  have hE : Hid (cutL l.length (lf l) = l) := Lib.hid (cut_self hl)
  have bm := hm.1 k
  have HC2 := Lib.hid hc2
  have HB := Lib.hid hm.1
  have bmz : lf m k ≠ 0 := by
    rcases hm.2 with h | h
    · omega
    · rw [hk] at h; exact h
  have HINV : Hid ((lf m k * PW (P f) (lf m k) (P f - 2)) % P f = 1 % P f) := Lib.hid (by
    rw [inverse_inv h0 h8 (by omega) bm.2]
    have := inv_top h0 h8 hm (by omega)
    rw [hk, show k + 1 - 1 = k by omega] at this
    exact this)
  have BI := PW_bd (m := P f) (x := lf m k) (e := P f - 2) (by omega)
  rw [hE.out] at HP
  clear hs hc2
  have hmk := made0
  have hlt' : (l.length : Int) < k := by omega
  go_enter Tryd.func32, Tryd.ntmps32
  go_wp2_with fail
  go_step3
  go_wp2_with fail
  have hb1 : Below w.heap.size w (w.alloc (.cells (madeCells #[.int .i64 0] 0) 3)) := (Below.refl _ _).alloc (Nat.le_refl _) _
  have HQ0 : Hid (Own (w.alloc (.cells (madeCells #[.int .i64 0] 0) 3)) w.heap.size 0 (fun _ => 0)) := Lib.hid (own_congr (World.rowIs_made w (.int .i64 0) 0 3) rfl (fun j _ => rfl))
  refine (HP.out _ hb1).mono ?_
  rintro e w1 ⟨gr, rfl, hgr, hO, hB⟩
  rw [World.size_alloc] at hgr
  have hBw := below_up hb1 hB (by simp)
  have c2 : w1.cell? ⟨b2, off2 + k, none⟩ = some (.int .i64 (lf m k)) := (hBw.cell (p := ⟨b2, off2 + k, none⟩) hlt2).trans (HC2.out k (by omega))
  have HQ1 := Lib.hid (HQ0.out.keep hB)
  have HR1 := Lib.hid hO
  clear hO HQ0 hB hb1 HP
  go_wp2_with fail
  refine (inverse_c f (lf m k) w1 (ht.below hBw) h0 h8 bm.1 bm.2).mono ?_
  rintro e w' ⟨rfl, rfl⟩
  go_wp2_with fail
  go_step3
  go_wp2_with fail
  refine wp_loop_rounds 1 ?_
  rw [rounds_succ]
  go_wp2_with fail
  refine (poly_c (some ⟨gr, 0, none⟩) l.length l.length (lf l) w1 (by omega) HR1.out.src).mono ?_
  rw [hE.out]
  rintro e w2 ⟨g2, rfl, hg2, hO2, hB2⟩
  have hlt1 := HR1.out.lt
  have HF : Hid (DivR f l m w (.returned (.tuple #[.slice (some ⟨w.heap.size, 0, none⟩) 0 0, .slice (some ⟨g2, 0, none⟩) l.length l.length])) w2) := Lib.hid (by
    have := div_finish h0 h8 hl hm (w := w) (w' := w2) (gq := w.heap.size) (gr := g2) (M := 0) (DivAt.start hl (P_pos h0 h8)) (by omega) (Nat.le_refl _) (.inr ⟨by omega, rfl⟩) (fun _ _ => rfl) (Nat.le_refl _) (by omega) (HQ1.out.keep hB2) (by rw [hE.out]; exact hO2) (below_up hBw hB2 hBw.size)
    rw [hE.out] at this
    exact this)
  clear hO2
  go_wp2
  (try rw [Exit.noGoto_ret])
  go_ret2
  exact HF.out
set_option maxRecDepth 100000 in
set_option maxHeartbeats 6400000 in
theorem divide_eq (f : Int) (a : Option Addr) (b2 off2 k : Nat) (l m : List Int) (cap cap2 : Nat) (w : World) (ht : Tab w) (h0 : 0 ≤ f) (h8 : f ≤ 8) (hn : l.length ≤ 4096) (hk : m.length = k + 1) (hk2 : k + 1 ≤ 4096) (hlt : l.length ≤ k) (hlt3 : k ≤ l.length) (hl : Pol f l) (hm : Pol f m) (hs : Src w a l.length (lf l)) (hlt2 : b2 < w.heap.size) (hc2 : ∀ j, j < k + 1 → w.cell? ⟨b2, off2 + j, none⟩ = some (.int .i64 (lf m j))) :
    Calls Tryd.prog 32 #[.int .i64 f, .slice a l.length cap, .slice (some ⟨b2, off2, none⟩) (k + 1) cap2] w (DivR f l m w) := by
  have hp := P_bd h0 h8
  have HP := Lib.hid fun (w1 : World) (hb : Below w.heap.size w w1) => poly_c a l.length cap (lf l) w1 (by omega) (hs.keep hb)
  have hE : Hid (cutL l.length (lf l) = l) := Lib.hid (cut_self hl)
  have bm := hm.1 k
  have HC2 := Lib.hid hc2
  have HB := Lib.hid hm.1
  have bmz : lf m k ≠ 0 := by
    rcases hm.2 with h | h
    · omega
    · rw [hk] at h; exact h
  have HINV : Hid ((lf m k * PW (P f) (lf m k) (P f - 2)) % P f = 1 % P f) := Lib.hid (by
    rw [inverse_inv h0 h8 (by omega) bm.2]
    have := inv_top h0 h8 hm (by omega)
    rw [hk, show k + 1 - 1 = k by omega] at this
    exact this)
  have BI := PW_bd (m := P f) (x := lf m k) (e := P f - 2) (by omega)
  rw [hE.out] at HP
  clear hs hc2
  have hmk0 := made0
  have hmk : ∀ w, (Instr.makeSlice 24 (.int .i64 ((l.length : Int) - ((k : Int) + 1) + 1)) (.int .i64 ((l.length : Int) - ((k : Int) + 1) + 1))).run Tryd.prog w = .ok (.slice (some ⟨w.heap.size, 0, none⟩) 0 0) (w.alloc (.cells (madeCells #[.int .i64 0] 0) 3)) := fun w => by
    rw [show ((l.length : Int) - ((k : Int) + 1) + 1) = 0 by omega]; exact made0 w
  go_enter Tryd.func32, Tryd.ntmps32
  go_wp2_with fail
  go_step3
  go_wp2_with fail
  have hb1 : Below w.heap.size w (w.alloc (.cells (madeCells #[.int .i64 0] 0) 3)) := (Below.refl _ _).alloc (Nat.le_refl _) _
  have HQ0 : Hid (Own (w.alloc (.cells (madeCells #[.int .i64 0] 0) 3)) w.heap.size 0 (fun _ => 0)) := Lib.hid (own_congr (World.rowIs_made w (.int .i64 0) 0 3) rfl (fun j _ => rfl))
  refine (HP.out _ hb1).mono ?_
  rintro e w1 ⟨gr, rfl, hgr, hO, hB⟩
  rw [World.size_alloc] at hgr
  have hBw := below_up hb1 hB (by simp)
  have c2 : w1.cell? ⟨b2, off2 + k, none⟩ = some (.int .i64 (lf m k)) := (hBw.cell (p := ⟨b2, off2 + k, none⟩) hlt2).trans (HC2.out k (by omega))
  have HQ1 := Lib.hid (HQ0.out.keep hB)
  have HR1 := Lib.hid hO
  clear hO HQ0 hB hb1 HP
  go_wp2_with fail
  refine (inverse_c f (lf m k) w1 (ht.below hBw) h0 h8 bm.1 bm.2).mono ?_
  rintro e w' ⟨rfl, rfl⟩
  go_wp2_with fail
  go_step3
  go_wp2_with fail
  refine wp_loop_rounds 1 ?_
  rw [rounds_succ]
  go_wp2_with fail
  refine (poly_c (some ⟨gr, 0, none⟩) l.length l.length (lf l) w1 (by omega) HR1.out.src).mono ?_
  rw [hE.out]
  rintro e w2 ⟨g2, rfl, hg2, hO2, hB2⟩
  have hlt1 := HR1.out.lt
  have HF : Hid (DivR f l m w (.returned (.tuple #[.slice (some ⟨w.heap.size, 0, none⟩) 0 0, .slice (some ⟨g2, 0, none⟩) l.length l.length])) w2) := Lib.hid (by
    have := div_finish h0 h8 hl hm (w := w) (w' := w2) (gq := w.heap.size) (gr := g2) (M := 0) (DivAt.start hl (P_pos h0 h8)) (by omega) (Nat.le_refl _) (.inr ⟨by omega, rfl⟩) (fun _ _ => rfl) (Nat.le_refl _) (by omega) (HQ1.out.keep hB2) (by rw [hE.out]; exact hO2) (below_up hBw hB2 hBw.size)
    rw [hE.out] at this
    exact this)
  clear hO2
  go_wp2
  (try rw [Exit.noGoto_ret])
  go_ret2
  exact HF.out
set_option maxRecDepth 100000 in
set_option maxHeartbeats 6400000 in
theorem divide_ge (f : Int) (a : Option Addr) (b2 off2 k : Nat) (l m : List Int) (cap cap2 : Nat) (w : World) (ht : Tab w) (h0 : 0 ≤ f) (h8 : f ≤ 8) (hn : l.length ≤ 4096) (hk : m.length = k + 1) (hk2 : k + 1 ≤ 4096) (M : Nat) (hlt : M + k = l.length) (hM : 0 < M) (hl : Pol f l) (hm : Pol f m) (hs : Src w a l.length (lf l)) (hlt2 : b2 < w.heap.size) (hc2 : ∀ j, j < k + 1 → w.cell? ⟨b2, off2 + j, none⟩ = some (.int .i64 (lf m j))) :
    Calls Tryd.prog 32 #[.int .i64 f, .slice a l.length cap, .slice (some ⟨b2, off2, none⟩) (k + 1) cap2] w (DivR f l m w) := by
  have hp := P_bd h0 h8
  have HP := Lib.hid fun (w1 : World) (hb : Below w.heap.size w w1) => poly_c a l.length cap (lf l) w1 (by omega) (hs.keep hb)
  have hE : Hid (cutL l.length (lf l) = l) := Lib.hid (cut_self hl)
  have bm := hm.1 k
  have HC2 := Lib.hid hc2
  have HB := Lib.hid hm.1
  have bmz : lf m k ≠ 0 := by
    rcases hm.2 with h | h
    · omega
    · rw [hk] at h; exact h
  have HINV : Hid ((lf m k * PW (P f) (lf m k) (P f - 2)) % P f = 1 % P f) := Lib.hid (by
    rw [inverse_inv h0 h8 (by omega) bm.2]
    have := inv_top h0 h8 hm (by omega)
    rw [hk, show k + 1 - 1 = k by omega] at this
    exact this)
  have BI := PW_bd (m := P f) (x := lf m k) (e := P f - 2) (by omega)
  rw [hE.out] at HP
  clear hs hc2
  have hmk : ∀ w, (Instr.makeSlice 24 (.int .i64 ((l.length : Int) - ((k : Int) + 1) + 1)) (.int .i64 ((l.length : Int) - ((k : Int) + 1) + 1))).run Tryd.prog w = .ok (.slice (some ⟨w.heap.size, 0, none⟩) M M) (w.alloc (.cells (madeCells #[.int .i64 0] M) 3)) := fun w => by
    rw [show ((l.length : Int) - ((k : Int) + 1) + 1) = (M : Int) by omega]; exact made_n M (by omega) w
  go_enter Tryd.func32, Tryd.ntmps32
  go_wp2_with fail
  go_step3
  go_wp2_with fail
  have hb1 : Below w.heap.size w (w.alloc (.cells (madeCells #[.int .i64 0] M) 3)) := (Below.refl _ _).alloc (Nat.le_refl _) _
  have HQ0 : Hid (Own (w.alloc (.cells (madeCells #[.int .i64 0] M) 3)) w.heap.size M (fun _ => 0)) := Lib.hid (own_congr (World.rowIs_made w (.int .i64 0) M 3) rfl (fun j _ => rfl))
  refine (HP.out _ hb1).mono ?_
  rintro e w1 ⟨gr, rfl, hgr, hO, hB⟩
  rw [World.size_alloc] at hgr
  have hBw := below_up hb1 hB (by simp)
  have c2 : w1.cell? ⟨b2, off2 + k, none⟩ = some (.int .i64 (lf m k)) := (hBw.cell (p := ⟨b2, off2 + k, none⟩) hlt2).trans (HC2.out k (by omega))
  have HQ1 := Lib.hid (HQ0.out.keep hB)
  have HR1 := Lib.hid hO
  clear hO HQ0 hB hb1 HP
  go_wp2_with fail
  refine (inverse_c f (lf m k) w1 (ht.below hBw) h0 h8 bm.1 bm.2).mono ?_
  rintro e w' ⟨rfl, rfl⟩
  go_wp2_with fail
  go_step3
  go_wp2_with fail
  clear hmk
  have HFIN : Hid (∀ (wr w2 : World) (g2 n' : Nat) (Q R : Nat → Int), DivAt f (lf l) m n' Q R → n' < k + 1 → n' ≤ l.length → (∀ j, M ≤ j → Q j = 0) → w.heap.size < g2 → Own w2 w.heap.size M Q → Own w2 g2 (cutL l.length R).length (lf (cutL l.length R)) → Below w.heap.size w w2 →
      DivR f l m w (.returned (.tuple #[.slice (some ⟨w.heap.size, 0, none⟩) M M, .slice (some ⟨g2, 0, none⟩) (cutL l.length R).length (cutL l.length R).length])) w2) := Lib.hid fun wr w2 g2 n' Q R hd h1 h2 hQ hg ho1 ho2 hb =>
    div_finish h0 h8 hl hm hd (by omega) h2 (.inl ⟨by omega, by omega⟩) hQ (Nat.le_refl _) hg ho1 ho2 hb
  have HSTEP : Hid (∀ (s : Nat) (Q R : Nat → Int), DivAt f (lf l) m (s + k + 1) Q R → DivAt f (lf l) m (s + k) (upd Q s (RS (R (s + k) * PW (P f) (lf m k) (P f - 2)) (P f))) (dst f m R (RS (R (s + k) * PW (P f) (lf m k) (P f - 2)) (P f)) s (k + 1))) := Lib.hid fun s Q R h => h.stepK h0 h8 hk HINV.out
  have HST : Hid (DivAt f (lf l) m l.length (fun _ => 0) (lf l)) := Lib.hid (DivAt.start hl (P_pos h0 h8))
  generalize PW (P f) (lf m k) (P f - 2) = V at *
  clear HINV hE bmz
  have hgr1 : w.heap.size < gr := by omega
  go_loopw [12, 13, 14, 15] (fun sh _ _ _ wr => ∃ (sI : Int) (n' : Nat) (Q R : Nat → Int), sh = .int .i64 sI ∧ sI + k + 1 = n' ∧ n' ≤ l.length ∧ Hid (DivAt f (lf l) m n' Q R) ∧ Hid (∀ j, M ≤ j → Q j = 0) ∧ Own wr w.heap.size M Q ∧ Own wr gr l.length R ∧ Below w.heap.size w wr) (fun sh _ _ _ _ => (intOf sh + 1).toNat)
  case atStart => exact ⟨_, l.length, fun _ => 0, lf l, rfl, by omega, Nat.le_refl _, HST, Lib.hid (fun _ _ => rfl), HQ1.out, HR1.out, hBw⟩
  case round =>
    clear HQ1 HR1 hBw c2 HST
    obtain ⟨sI, n', Q, R, rfl, hsn, hnn, HD, HZ, hoq, hor, hb⟩ := hrel
    by_cases hs0 : 0 ≤ sI
    · obtain ⟨s, rfl⟩ := Int.eq_ofNat_of_zero_le hs0
      obtain rfl : n' = s + k + 1 := by omega
      have hsk : s + k < l.length := by omega
      have hsM : s < M := by omega
      have cR := World.rowIs.cell hor hsk
      have bR := HD.out.2.1 (s + k)
      have cQ := World.rowIs.cell hoq hsM
      have fQ := World.rowIs.frozen hoq s
      have HT := Lib.hid (ht.below hb)
      have bfac := RS_bd (x := R (s + k) * V) (m := P f) (by omega)
      have HN := Lib.hid (HSTEP.out s Q R HD.out)
      have HQ' := Lib.hid (own_upd (s := s) (m := RS (R (s + k) * V) (P f)) hoq)
      have HR' := Lib.hid (own_other (k := s) (v := .int .i64 (RS (R (s + k) * V) (P f))) hor (show gr ≠ w.heap.size by omega))
      have HB' := Lib.hid (hb.setCell (p := ⟨w.heap.size, s, none⟩) (Nat.le_refl _) (.int .i64 (RS (R (s + k) * V) (P f))))
      have HZ' : Hid (∀ j, M ≤ j → upd Q s (RS (R (s + k) * V) (P f)) j = 0) := Lib.hid (fun j hj => by unfold upd; rw [if_neg (by omega)]; exact HZ.out j hj)
      have HRb := Lib.hid HD.out.2.1
      clear HD HZ hoq hor
      go_wp2_with fail
      refine (mul_c f (R (s + k)) V wr HT.out h0 h8 bR.1 bR.2 BI.1 BI.2).mono ?_
      rintro e w' ⟨rfl, rfl⟩
      generalize hfac : RS (R (s + k) * V) (P f) = fac at *
      go_wp2_with fail
      obtain ⟨W1, hW1⟩ : ∃ W1, wr.setCell ⟨w.heap.size, s, none⟩ (.int .i64 fac) = W1 := ⟨_, rfl⟩
      rw [hW1] at HQ' HR' HB' ⊢
      have HR2 : Hid (Own W1 gr l.length (dst f m R fac s 0)) := Lib.hid (own_congr HR'.out rfl (fun j _ => (dst_zero f m R fac s j).symm))
      clear hW1 HR' cR cQ fQ hb HT
      go_loopw [14, 15, 57] (fun _ _ i W => ∃ j : Nat, i = .int .i64 j ∧ j ≤ k + 1 ∧ Own W gr l.length (dst f m R fac s j) ∧ Own W w.heap.size M (upd Q s fac) ∧ Below w.heap.size w W) (fun _ _ i _ => k + 1 - (intOf i).toNat)
      case atStart => exact ⟨0, rfl, Nat.zero_le _, HR2.out, HQ'.out, HB'.out⟩
      case round =>
        clear HR2 HQ' HB'
        obtain ⟨j, rfl, hj, hor, hoq, hb⟩ := hrel
        by_cases hjk : j < k + 1
        · have hdj : decide ((j : Int) < (k : Int) + 1) = true := decide_eq_true (by omega)
          have d2 : wr.cell? ⟨b2, off2 + j, none⟩ = some (.int .i64 (lf m j)) := (hb.cell (p := ⟨b2, off2 + j, none⟩) hlt2).trans (HC2.out j hjk)
          have hsj : s + j < l.length := by omega
          have hor1 : Own wr.drew gr l.length (dst f m R fac s j) := hor
          have hoq1 : Own wr.drew w.heap.size M (upd Q s fac) := hoq
          have hb1 : Below w.heap.size w wr.drew := ⟨hb.os, hb.tape, hb.output, hb.size, hb.block⟩
          have cR := World.rowIs.cell hor hsj
          rw [dst_at] at cR
          have fR := World.rowIs.frozen hor1 (s + j)
          have cR1 := World.rowIs.cell hor1 hsj
          rw [dst_at] at cR1
          have HTw : Hid (Tab wr.drew) := Lib.hid (Tab.keep (ht.below hb) (fun _ => rfl))
          have bR := HRb.out (s + j)
          have bM := HB.out j
          have bX := RS_bd (x := fac * lf m j) (m := P f) (by omega)
          have HS1 := Lib.hid (own_dst hor1)
          have HS2 := Lib.hid (own_other (k := s + j) (v := .int .i64 (RS (R (s + j) - RS (fac * lf m j) (P f)) (P f))) hoq1 (show w.heap.size ≠ gr by omega))
          have HS3 := Lib.hid (hb1.setCell (p := ⟨gr, s + j, none⟩) (show w.heap.size ≤ gr by omega) (.int .i64 (RS (R (s + j) - RS (fac * lf m j) (P f)) (P f))))
          have hw : IntKind.i64.wrap ((s : Int) + j) = (s : Int) + j := IntWalk.i64_in _ (by omega)
          have hi1 : (0 : Int) ≤ (s : Int) + j := by omega
          have hi2 : (s : Int) + j < (l.length : Int) := by omega
          have hi3 : ((s : Int) + j).toNat = s + j := by omega
          clear hor hoq hor1 hoq1
          go_wp2
          refine wp_region_still_tail 17 (by kernel_rfl) (by kernel_rfl) ?_
          simp only [List.take_succ_cons, List.take_zero, List.drop_succ_cons, List.drop_zero]
          still_step
          still_step
          still_step
          still_step
          still_step
          still_step
          still_step
          still_step
          still_step
          still_step
          still_step
          still_step
          still_step
          still_step
          still_call ((mul_c f fac (lf m j) wr.drew HTw.out h0 h8 bfac.1 bfac.2 bM.1 bM.2).mono fun _ _ h => ⟨h.1, h.2.symm⟩)
          still_call ((sub_c f (R (s + j)) (RS (fac * lf m j) (P f)) wr.drew HTw.out h0 h8 bR.1 bR.2 bX.1 bX.2).mono fun _ _ h => ⟨h.1, h.2.symm⟩)
          still_step
          refine wpStill_nil ?_
          change wpList _ _ _ _ _ wr.drew
          clear hw hi1 hi2 hi3 cR d2
          generalize wr.drew = W2 at *
          go_wp2
          go_roundw
          case rel => exact ⟨j + 1, by go_num, by omega, HS1.out, HS2.out, HS3.out⟩
          case measure => simp [intOf] <;> omega
        · have hdj : decide ((j : Int) < (k : Int) + 1) = false := decide_eq_false (by omega)
          obtain rfl : j = k + 1 := by omega
          have HOR := Lib.hid hor
          have HOQ := Lib.hid hoq
          clear hor hoq
          generalize dst f m R fac s (k + 1) = R' at *
          generalize upd Q s fac = Q' at *
          go_wp2_with fail
          go_loop [12] (fun sh => ∃ (u t : Nat), sh = .int .i64 u ∧ t = u + k + 1 ∧ t ≤ s + k + 1 ∧ Hid ((t = s + k + 1 ∧ DivAt f (lf l) m (u + k) Q' R') ∨ (t < s + k + 1 ∧ DivAt f (lf l) m t Q' R'))) (fun sh => (intOf sh).toNat)
          case atStart => exact ⟨s, s + k + 1, rfl, rfl, Nat.le_refl _, Lib.hid (.inl ⟨rfl, HN.out⟩)⟩
          case round =>
            clear HN
            obtain ⟨u, t, rfl, ht1, ht2, HD2⟩ := hrel
            have huk : u + k < l.length := by omega
            have cR := World.rowIs.cell HOR.out huk
            by_cases hz : R' (u + k) = 0
            · have HD3 : Hid (DivAt f (lf l) m (u + k) Q' R') := Lib.hid (by
                rcases HD2.out with ⟨_, h⟩ | ⟨_, h⟩
                · exact h
                · rw [ht1] at h; exact h.skip hz)
              have ez : (R' (u + k) == 0) = true := by simp [hz]
              clear hz HD2
              by_cases hu : u = 0
              · subst hu
                have HD3' : Hid (DivAt f (lf l) m k Q' R') := Lib.hid (by have := HD3.out; rwa [Nat.zero_add] at this)
                rw [Nat.zero_add] at cR ez
                clear HD3
                have HP2 := Lib.hid (poly_own (u := wr) (by omega) HOR.out (fun j _ => rfl) (Below.refl _ _))
                have hlt1 := HOR.out.lt
                go_wp2_with fail
                refine HP2.out.mono ?_
                rintro e w2 ⟨g2, rfl, hg2, hO2, hB2⟩
                have HF := Lib.hid (HFIN.out wr w2 g2 k Q' R' HD3'.out (by omega) (by omega) HZ'.out (by omega) (HOQ.out.keep hB2) hO2 (below_up hb hB2 hb.size))
                clear hO2 HP2
                go_wp2
                (try rw [Exit.noGoto_ret])
                go_ret2
                exact HF.out
              · obtain ⟨v, rfl⟩ : ∃ v, u = v + 1 := ⟨u - 1, by omega⟩
                have HD4 : Hid ((v + k + 1 = s + k + 1 ∧ DivAt f (lf l) m (v + k) Q' R') ∨ (v + k + 1 < s + k + 1 ∧ DivAt f (lf l) m (v + k + 1) Q' R')) := Lib.hid (.inr ⟨by omega, by have := HD3.out; rwa [show v + 1 + k = v + k + 1 by omega] at this⟩)
                clear HD3
                go_wp2
                go_round
                case rel => exact ⟨v, v + k + 1, by go_num, rfl, by omega, HD4⟩
                case measure => simp [intOf] <;> omega
            · have ez : (R' (u + k) == 0) = false := by simp [hz]
              have HD3 : Hid (t < s + k + 1 ∧ DivAt f (lf l) m t Q' R') := Lib.hid (by
                rcases HD2.out with ⟨_, h⟩ | h
                · exact absurd (h.2.2.2.1 (u + k) (Nat.le_refl _)) hz
                · exact h)
              have hlt4 := HD3.out.1
              clear hz HD2
              go_wp2
              go_roundw
              case rel => exact ⟨u, t, Q', R', rfl, by omega, by omega, Lib.hid HD3.out.2, HZ', HOQ.out, HOR.out, hb⟩
              case measure => simp [intOf] <;> omega
    · have hd0 : decide ((0 : Int) ≤ sI) = false := decide_eq_false hs0
      have HP2 := Lib.hid (poly_own (u := wr) (by omega) hor (fun j _ => rfl) (Below.refl _ _))
      have hlt1 := hor.lt
      have HO := Lib.hid hoq
      clear hoq hor
      go_wp2_with fail
      refine HP2.out.mono ?_
      rintro e w2 ⟨g2, rfl, hg2, hO2, hB2⟩
      have HF := Lib.hid (HFIN.out wr w2 g2 n' Q R HD.out (by omega) hnn HZ.out (by omega) (HO.out.keep hB2) hO2 (below_up hb hB2 hb.size))
      clear hO2 HP2
      go_wp2
      (try rw [Exit.noGoto_ret])
      go_ret2
      exact HF.out
end Go.Proofs.YtcenglbcibkniaaDoor
