/-
  Texts of the proofs of this seat, joined (part 2).
-/
import Derived.Deep.RegionHeld3
import Derived.Test.YtaapmpjkcddabaaDoorJ1
namespace Go.Proofs.YtaapmpjkcddabaaDoor
open Go.RowKit
/-- The product of the residues of two lists, place by place. -/
def rpL (f : Int) (l m : List Int) : List Int := if l.length = 0 ∨ m.length = 0 then [] else tab (l.length + m.length - 1) fun k => RS (cpar (fun j => RS (lf l j) (P f)) (fun j => RS (lf m j) (P f)) k l.length) (P f)
theorem productR_c (f : Int) (g1 g2 : Nat) (l m : List Int) (w : World) (ht : Tab w) (h0 : 0 ≤ f) (h8 : f ≤ 8) (hn : l.length ≤ 4096) (hm : m.length ≤ 4096) (h1 : Own w g1 l.length (fun j => RS (lf l j) (P f))) (h2 : Own w g2 m.length (fun j => RS (lf m j) (P f))) :
    Calls Tryd.prog 45 #[.int .i64 f, .slice (some ⟨g1, 0, none⟩) l.length l.length, .slice (some ⟨g2, 0, none⟩) m.length m.length] w (OwnG w (rpL f l m)) := by
  have hp := P_bd h0 h8
  unfold rpL
  by_cases hz : l.length = 0 ∨ m.length = 0
  · rw [if_pos hz]
    exact product_none f _ _ _ _ _ _ w hz
  · rw [if_neg hz]
    refine (product_some f g1 0 g2 0 l.length m.length _ _ (l.length + m.length - 1) (fun j => RS (lf l j) (P f)) (fun j => RS (lf m j) (P f)) w ht h0 h8 hn hm (by omega) (by omega) (by omega) (fun j => RS_bd (by omega)) (fun j => RS_bd (by omega)) (fun j hj => by show RS (lf m j) (P f) = 0; rw [lf_out m hj]; simp [RS]) h1.lt h2.lt (fun j hj => by rw [Nat.zero_add]; exact h1.cell hj) (fun j hj => by rw [Nat.zero_add]; exact h2.cell hj)).mono ?_
    rintro e w' ⟨rfl, ho, hb⟩
    exact OwnG.of_own ho (tab_len _ _).symm (Nat.le_refl _) (fun j hj => by rw [lf_tab, if_pos hj]) hb
theorem rp_len (f : Int) (l m : List Int) : (rpL f l m).length = (ceL l m).length := by
  unfold rpL ceL
  split
  · rfl
  · rw [tab_len, tab_len]
theorem rp_bd {f : Int} (h0 : 0 ≤ f) (h8 : f ≤ 8) (l m : List Int) (j : Nat) : 0 ≤ lf (rpL f l m) j ∧ lf (rpL f l m) j < P f := by
  have hp := P_bd h0 h8
  unfold rpL
  split
  · rw [lf_out [] (Nat.zero_le _)]; omega
  · rw [lf_tab]
    split
    · exact RS_bd (by omega)
    · omega
/-- What convolve takes: terms. -/
def TermsB (l : List Int) : Prop := l.length ≤ 4096 ∧ ∀ j, -1000000 ≤ lf l j ∧ lf l j ≤ 1000000
theorem rp_center {l m : List Int} (hl : TermsB l) (hm : TermsB m) {k : Nat} (hk : k < (ceL l m).length) : mCentered0 (lf (rpL 6 l m) k) (lf (rpL 7 l m) k) = lf (ceL l m) k := by
  unfold rpL ceL at *
  by_cases hz : l.length = 0 ∨ m.length = 0
  · rw [if_pos hz] at hk
    simp at hk
  · rw [if_neg hz] at hk
    rw [tab_len] at hk
    rw [if_neg hz, if_neg hz, if_neg hz, lf_tab, if_pos hk, lf_tab, if_pos hk, lf_tab, if_pos hk]
    exact center_conv hl.1 hl.2 hm.2 (fun j hj => lf_out l hj) k
def OwnN (w : World) (n : Nat) (F : Nat → Int) (e : Ending) (w' : World) : Prop := ∃ g, e = .returned (.slice (some ⟨g, 0, none⟩) n n) ∧ w.heap.size ≤ g ∧ Own w' g n F ∧ Below w.heap.size w w'
theorem OwnG.n {w w' : World} {l : List Int} {n : Nat} {e : Ending} (h : OwnG w l e w') (hn : l.length = n) : OwnN w n (lf l) e w' := by
  subst hn
  exact h
theorem pairs_at (w : World) (v0 v1 u0 u1 : Value) (t : TypeId) : ((w.alloc (.cells #[v0, v1] t)).alloc (.cells #[u0, u1] t)).heap[w.heap.size]? = some (.cells #[v0, v1] t) ∧ ((w.alloc (.cells #[v0, v1] t)).alloc (.cells #[u0, u1] t)).heap[w.heap.size + 1]? = some (.cells #[u0, u1] t) ∧ Below w.heap.size w ((w.alloc (.cells #[v0, v1] t)).alloc (.cells #[u0, u1] t)) := by
  have s1 : (w.alloc (.cells #[v0, v1] t)).heap.size = w.heap.size + 1 := by simp
  refine ⟨?_, ?_, ((Below.refl _ _).alloc (Nat.le_refl _) _).alloc (by omega) _⟩
  · rw [heap_alloc_old _ _ (by omega), alloc_heap]
  · rw [← s1, alloc_heap]
def FourC (g h : Nat) (v0 v1 u0 u1 : Value) (W : World) : Prop := W.cell? ⟨g, 0, none⟩ = some v0 ∧ W.cell? ⟨g, 1, none⟩ = some v1 ∧ W.cell? ⟨h, 0, none⟩ = some u0 ∧ W.cell? ⟨h, 1, none⟩ = some u1
theorem FourC.keep {g h : Nat} {v0 v1 u0 u1 : Value} {W W' : World} (k : FourC g h v0 v1 u0 u1 W) (hb : Below W.heap.size W W') : FourC g h v0 v1 u0 u1 W' := by
  obtain ⟨k0, k1, k2, k3⟩ := k
  exact ⟨(hb.cell (p := ⟨g, 0, none⟩) (block_lt_of_cell k0)).trans k0, (hb.cell (p := ⟨g, 1, none⟩) (block_lt_of_cell k1)).trans k1, (hb.cell (p := ⟨h, 0, none⟩) (block_lt_of_cell k2)).trans k2, (hb.cell (p := ⟨h, 1, none⟩) (block_lt_of_cell k3)).trans k3⟩
theorem cell_set {w : World} {g g2 o j : Nat} {v : Value} (h : g ≠ g2) : (w.setCell ⟨g2, o, none⟩ v).cell? ⟨g, j, none⟩ = w.cell? ⟨g, j, none⟩ := by
  unfold World.cell?
  rw [heap_set h]
theorem FourC.set2 {g h p : Nat} {v0 v1 u0 u1 x y : Value} {W : World} (k : FourC g h v0 v1 u0 u1 W) (h1 : g < p) (h2 : h < p) : FourC g h v0 v1 u0 u1 ((W.setCell ⟨p, 0, none⟩ x).setCell ⟨p, 1, none⟩ y) := by
  obtain ⟨k0, k1, k2, k3⟩ := k
  exact ⟨by rw [cell_set (by omega), cell_set (by omega)]; exact k0, by rw [cell_set (by omega), cell_set (by omega)]; exact k1, by rw [cell_set (by omega), cell_set (by omega)]; exact k2, by rw [cell_set (by omega), cell_set (by omega)]; exact k3⟩
/-- What stands while the two products are made. -/
def Bd (w : World) (s2 gA gB gC gD n m : Nat) (A B C D : Nat → Int) (W : World) : Prop :=
  Below w.heap.size w W ∧ Own W gA n A ∧ Own W gB n B ∧ Own W gC m C ∧ Own W gD m D ∧ FourC s2 (s2 + 1) (.slice (some ⟨gA, 0, none⟩) n n) (.slice (some ⟨gB, 0, none⟩) n n) (.slice (some ⟨gC, 0, none⟩) m m) (.slice (some ⟨gD, 0, none⟩) m m) W
theorem Bd.keep {w : World} {s2 gA gB gC gD n m : Nat} {A B C D : Nat → Int} {W W' : World} (h : Bd w s2 gA gB gC gD n m A B C D W) (hb : Below W.heap.size W W') : Bd w s2 gA gB gC gD n m A B C D W' := by
  obtain ⟨h1, h2, h3, h4, h5, h6⟩ := h
  exact ⟨below_up h1 hb h1.size, h2.keep hb, h3.keep hb, h4.keep hb, h5.keep hb, h6.keep hb⟩
theorem Bd.al {w : World} {s2 gA gB gC gD n m : Nat} {A B C D : Nat → Int} {W : World} (h : Bd w s2 gA gB gC gD n m A B C D W) (o : Obj) : Bd w s2 gA gB gC gD n m A B C D (W.alloc o) := h.keep (below_alloc W o)
theorem Bd.drew {w : World} {s2 gA gB gC gD n m : Nat} {A B C D : Nat → Int} {W : World} (h : Bd w s2 gA gB gC gD n m A B C D W) : Bd w s2 gA gB gC gD n m A B C D W.drew := h.keep ((Below.refl _ _).drew)
def OwnD (Z : World → Prop) (W : World) (n : Nat) (F : Nat → Int) (e : Ending) (w' : World) : Prop := ∃ g, e = .returned (.slice (some ⟨g, 0, none⟩) n n) ∧ W.heap.size ≤ g ∧ Own w' g n F ∧ Z w' ∧ Below W.heap.size W w'
/-- The pair of the products. -/
def RF (w W : World) (N g5 g6 g7 : Nat) (X6 X7 : Nat → Int) : Prop := W.cell? ⟨g7, 0, none⟩ = some (.slice (some ⟨g5, 0, none⟩) N N) ∧ W.cell? ⟨g7, 1, none⟩ = some (.slice (some ⟨g6, 0, none⟩) N N) ∧ Own W g5 N X6 ∧ Own W g6 N X7 ∧ Below w.heap.size w W
theorem RF.a {w W : World} {N g5 g6 : Nat} {X6 X7 : Nat → Int} (h5 : Own W g5 N X6) (h6 : Own W g6 N X7) (hb : Below w.heap.size w W) (t : TypeId) : RF w (W.alloc (.cells #[.slice (some ⟨g5, 0, none⟩) N N, .slice (some ⟨g6, 0, none⟩) N N] t)) N g5 g6 W.heap.size X6 X7 :=
  ⟨heap_cell (alloc_heap _ _) rfl, heap_cell (alloc_heap _ _) rfl, h5.keep (below_alloc _ _), h6.keep (below_alloc _ _), hb.alloc hb.size _⟩
theorem cell_new {w : World} {p j : Nat} {v : Value} {u : Value} (h : w.cell? ⟨p, j, none⟩ = some u) : (w.setCell ⟨p, j, none⟩ v).cell? ⟨p, j, none⟩ = some v := World.cell?_setCell_same _ _ _ h
theorem cell_next {w : World} {p j o : Nat} {v : Value} (h : j ≠ o) : (w.setCell ⟨p, o, none⟩ v).cell? ⟨p, j, none⟩ = w.cell? ⟨p, j, none⟩ := by
  apply World.cell?_setCell_other
  intro e
  injection e with _ e
  exact h e.symm
theorem pair0 {w : World} {g : Nat} {t : TypeId} {v0 v1 : Value} (h : w.heap[g]? = some (.cells #[v0, v1] t)) : w.cell? ⟨g, 0, none⟩ = some v0 := heap_cell h rfl
theorem pair1 {w : World} {g : Nat} {t : TypeId} {v0 v1 : Value} (h : w.heap[g]? = some (.cells #[v0, v1] t)) : w.cell? ⟨g, 1, none⟩ = some v1 := heap_cell h rfl
theorem RF.b {w W : World} {N g5 g6 g7 : Nat} {X6 X7 : Nat → Int} {v0 v1 : Value} {t : TypeId} (h5 : Own W g5 N X6) (h6 : Own W g6 N X7) (hb : Below w.heap.size w W) (hz : W.heap[g7]? = some (.cells #[v0, v1] t)) (n5 : g5 ≠ g7) (n6 : g6 ≠ g7) (hw : w.heap.size ≤ g7) : RF w ((W.setCell ⟨g7, 0, none⟩ (.slice (some ⟨g5, 0, none⟩) N N)).setCell ⟨g7, 1, none⟩ (.slice (some ⟨g6, 0, none⟩) N N)) N g5 g6 g7 X6 X7 :=
  ⟨by rw [cell_next (by omega)]; exact cell_new (heap_cell hz rfl), cell_new (by rw [cell_next (by omega)]; exact heap_cell hz rfl), own_other (own_other h5 n5) n5, own_other (own_other h6 n6) n6, (hb.setCell (p := ⟨g7, 0, none⟩) hw _).setCell (p := ⟨g7, 1, none⟩) hw _⟩
def ConvS (g7 g5 g6 k N : Nat) (x y : Int) (W : World) : Prop := W.cell? ⟨g7, 0, none⟩ = some (.slice (some ⟨g5, 0, none⟩) N N) ∧ W.cell? ⟨g7, 1, none⟩ = some (.slice (some ⟨g6, 0, none⟩) N N) ∧ W.cell? ⟨g5, k, none⟩ = some (.int .i64 x) ∧ W.cell? ⟨g6, k, none⟩ = some (.int .i64 y)
theorem ConvS.keep {g7 g5 g6 k N B : Nat} {x y : Int} {W W' : World} (h : ConvS g7 g5 g6 k N x y W) (hb : Below B W W') (h7 : g7 < B) (h5 : g5 < B) (h6 : g6 < B) : ConvS g7 g5 g6 k N x y W' := by
  obtain ⟨k0, k1, k2, k3⟩ := h
  exact ⟨(hb.cell (p := ⟨g7, 0, none⟩) h7).trans k0, (hb.cell (p := ⟨g7, 1, none⟩) h7).trans k1, (hb.cell (p := ⟨g5, k, none⟩) h5).trans k2, (hb.cell (p := ⟨g6, k, none⟩) h6).trans k3⟩
theorem ConvS.set {g7 g5 g6 k N p j : Nat} {x y : Int} {v : Value} {W : World} (h : ConvS g7 g5 g6 k N x y W) (h7 : g7 < p) (h5 : g5 < p) (h6 : g6 < p) : ConvS g7 g5 g6 k N x y (W.setCell ⟨p, j, none⟩ v) := by
  obtain ⟨k0, k1, k2, k3⟩ := h
  exact ⟨by rw [cell_set (by omega)]; exact k0, by rw [cell_set (by omega)]; exact k1, by rw [cell_set (by omega)]; exact k2, by rw [cell_set (by omega)]; exact k3⟩
set_option maxRecDepth 100000 in
set_option maxHeartbeats 3200000 in
theorem convolve_c (a : Option Addr) (l : List Int) (cap : Nat) (a2 : Option Addr) (m : List Int) (cap2 : Nat) (w : World) (ht : Tab w) (hl : TermsB l) (hm : TermsB m) (hs : Src w a l.length (lf l)) (hs2 : Src w a2 m.length (lf m)) :
    Calls Tryd.prog 34 #[.slice a l.length cap, .slice a2 m.length cap2] w (OwnG w (ceL l m)) := by
  have R1 := Lib.hid (residueLists_c a l.length cap (lf l) w ht hl.1 hs)
  have R2 : Hid (∀ W, Below w.heap.size w W → Calls Tryd.prog 44 #[.slice a2 m.length cap2] W (ResP W m.length (lf m))) := Lib.hid fun W hb => residueLists_c a2 m.length cap2 (lf m) W (ht.below hb) hm.1 (hs2.keep hb)
  have P6R : Hid (∀ (s2 gA gB gC gD : Nat) (B D : Nat → Int) (W : World), Bd w s2 gA gB gC gD l.length m.length (fun j => RS (lf l j) (P 6)) B (fun j => RS (lf m j) (P 6)) D W → Calls Tryd.prog 45 #[.int .i64 6, .slice (some ⟨gA, 0, none⟩) l.length l.length, .slice (some ⟨gC, 0, none⟩) m.length m.length] W (OwnD (Bd w s2 gA gB gC gD l.length m.length (fun j => RS (lf l j) (P 6)) B (fun j => RS (lf m j) (P 6)) D) W (ceL l m).length (lf (rpL 6 l m)))) := Lib.hid fun s2 gA gB gC gD B D W hB => (productR_c 6 gA gC l m W (ht.below hB.1) (by omega) (by omega) hl.1 hm.1 hB.2.1 hB.2.2.2.1).mono fun _ _ h => by
    obtain ⟨g, h1, h2, h3, h4⟩ := h.n (rp_len 6 l m)
    exact ⟨g, h1, h2, h3, hB.keep h4, h4⟩
  have P7R : Hid (∀ (s2 gA gB gC gD : Nat) (A C : Nat → Int) (W : World), Bd w s2 gA gB gC gD l.length m.length A (fun j => RS (lf l j) (P 7)) C (fun j => RS (lf m j) (P 7)) W → Calls Tryd.prog 45 #[.int .i64 7, .slice (some ⟨gB, 0, none⟩) l.length l.length, .slice (some ⟨gD, 0, none⟩) m.length m.length] W (OwnD (Bd w s2 gA gB gC gD l.length m.length A (fun j => RS (lf l j) (P 7)) C (fun j => RS (lf m j) (P 7))) W (ceL l m).length (lf (rpL 7 l m)))) := Lib.hid fun s2 gA gB gC gD A C W hB => (productR_c 7 gB gD l m W (ht.below hB.1) (by omega) (by omega) hl.1 hm.1 hB.2.2.1 hB.2.2.2.2.1).mono fun _ _ h => by
    obtain ⟨g, h1, h2, h3, h4⟩ := h.n (rp_len 7 l m)
    exact ⟨g, h1, h2, h3, hB.keep h4, h4⟩
  have HCE : Hid (∀ k, k < (ceL l m).length → mCentered0 (lf (rpL 6 l m) k) (lf (rpL 7 l m) k) = lf (ceL l m) k) := Lib.hid fun k hk => rp_center hl hm hk
  have HB6 := Lib.hid (rp_bd (f := 6) (by omega) (by omega) l m)
  have HB7 := Lib.hid (rp_bd (f := 7) (by omega) (by omega) l m)
  have hlen : (ceL l m).length ≤ 8192 := by have := @ceL_len l m; have := hl.1; have := hm.1; omega
  have HTB : Hid (∀ W, Below w.heap.size w W → Tab W) := Lib.hid fun W hb => ht.below hb
  have HOG : Hid (∀ (g : Nat) (W : World), w.heap.size ≤ g → Own W g (ceL l m).length (lf (ceL l m)) → Below w.heap.size w W → OwnG w (ceL l m) (.returned (.slice (some ⟨g, 0, none⟩) (ceL l m).length (ceL l m).length)) W) := Lib.hid fun g W hg ho hb => ⟨g, rfl, hg, ho, hb⟩
  clear hs hs2 hl hm ht
  generalize lf (rpL 6 l m) = X6 at *
  generalize lf (rpL 7 l m) = X7 at *
  generalize lf (ceL l m) = C at *
  generalize (ceL l m).length = N at *
  go_enter Tryd.func34, Tryd.ntmps34
  go_wp2_with fail
  refine R1.out.mono ?_
  rintro e w1 ⟨gA, gB, rfl, oA, oB, qA, qB, b1⟩
  go_wp2_with fail
  refine (R2.out _ b1).mono ?_
  rintro e w2 ⟨gC, gD, rfl, oC, oD, qC, qD, b2⟩
  have b3 := below_up b1 b2 b1.size
  have oA2 := oA.keep b2
  have oB2 := oB.keep b2
  clear oA oB b1 b2 R1 R2
  go_upto_region 2 with fail
  have pa := pairs_at w2 (.slice (some ⟨gA, 0, none⟩) l.length l.length) (.slice (some ⟨gB, 0, none⟩) l.length l.length) (.slice (some ⟨gC, 0, none⟩) m.length m.length) (.slice (some ⟨gD, 0, none⟩) m.length m.length) 52
  generalize ((w2.alloc (.cells #[.slice (some ⟨gA, 0, none⟩) l.length l.length, .slice (some ⟨gB, 0, none⟩) l.length l.length] 52)).alloc (.cells #[.slice (some ⟨gC, 0, none⟩) m.length m.length, .slice (some ⟨gD, 0, none⟩) m.length m.length] 52)) = W3 at *
  obtain ⟨p1, p2, p3⟩ := pa
  have k3 : FourC w2.heap.size (w2.heap.size + 1) (.slice (some ⟨gA, 0, none⟩) l.length l.length) (.slice (some ⟨gB, 0, none⟩) l.length l.length) (.slice (some ⟨gC, 0, none⟩) m.length m.length) (.slice (some ⟨gD, 0, none⟩) m.length m.length) W3 := ⟨heap_cell p1 rfl, heap_cell p1 rfl, heap_cell p2 rfl, heap_cell p2 rfl⟩
  have B3 : Bd w w2.heap.size gA gB gC gD l.length m.length (fun j => RS (lf l j) (P 6)) (fun j => RS (lf l j) (P 7)) (fun j => RS (lf m j) (P 6)) (fun j => RS (lf m j) (P 7)) W3 := ⟨below_up b3 p3 b3.size, oA2.keep p3, oB2.keep p3, oC.keep p3, oD.keep p3, k3⟩
  have lt3 : w2.heap.size + 1 < W3.heap.size := heap_lt p2
  clear oA2 oB2 oC oD p1 p2 p3 b3
  generalize w2.heap.size = s2 at *
  go_cut [7] from 10 (fun p w7 => ∃ g5 g6 g7, p = .pointer (some ⟨g7, 0, none⟩) ∧ RF w w7 N g5 g6 g7 X6 X7)
  case first =>
    have tok1 : Hid True := Lib.hid trivial
    have B4 := B3.drew
    have k4 := B4.2.2.2.2.2
    have lt4 : s2 + 1 < W3.drew.heap.size := lt3
    have hw3 := B3.1.size
    go_region_held3 (fun W => W.cell? ⟨s2, 0, none⟩ = some (.slice (some ⟨gA, 0, none⟩) l.length l.length) ∧ W.cell? ⟨s2, 1, none⟩ = some (.slice (some ⟨gB, 0, none⟩) l.length l.length) ∧ W.cell? ⟨s2 + 1, 0, none⟩ = some (.slice (some ⟨gC, 0, none⟩) m.length m.length) ∧ W.cell? ⟨s2 + 1, 1, none⟩ = some (.slice (some ⟨gD, 0, none⟩) m.length m.length))
      (first | exact k3 | exact k4 | exact k4.keep (below_alloc _ _) | exact k5 | exact k5.keep (below_alloc _ _) | exact k6 | exact k6.keep (below_alloc _ _) | exact k6.set2 (by omega) (by omega) | go_keep)
      (first
        | (go_at_call 45; clear tok1; refine (P6R.out s2 gA gB gC gD _ _ _ (by first | exact B4 | exact B4.al _)).mono ?_; rintro e w5 ⟨g5, rfl, q5, o5, B5, b5⟩; have k5 := B5.2.2.2.2.2; have z5 := b5.size; have lt5 : g5 < w5.heap.size := o5.lt; have l5 : s2 + 1 < w5.heap.size := block_lt_of_cell k5.2.2.1; have hw5 := B5.1.size; (try have y5 := Lib.hid ((b5.block W3.heap.size (by simp)).trans (alloc_heap W3 (.cells #[.slice none 0 0, .slice none 0 0] 52)))))
        | (go_at_call 45; refine (P7R.out s2 gA gB gC gD _ _ _ (by first | exact B5 | exact B5.al _)).mono ?_; rintro e w6 ⟨g6, rfl, q6, o6, B6, b6⟩; have k6 := B6.2.2.2.2.2; have z6 := b6.size; have o56 : Own w6 g5 N X6 := (by first | exact o5.keep b6 | exact (o5.keep (below_alloc _ _)).keep b6); (try have y6 := Lib.hid ((b6.block w5.heap.size (by simp)).trans (alloc_heap w5 (.cells #[.slice none 0 0, .slice none 0 0] 52)))); (try have y6 := Lib.hid ((b6.block _ (heap_lt y5.out)).trans y5.out)); (try have c60 := pair0 y6.out); (try have c61 := pair1 y6.out); (try have f60 := heap_frozen (j := 0) y6.out); (try have f61 := heap_frozen (j := 1) y6.out)))
    all_goals
      clear k3 k4 k5 k6 b5 b6
      go_wp2_with fail
      go_meet
    all_goals
      first
        | exact ⟨g5, g6, _, rfl, RF.a o56 o6 B6.1 _⟩
        | exact ⟨g5, g6, _, rfl, RF.b o56 o6 B6.1 y6.out (by simp at q5 q6; omega) (by simp at q5 q6; omega) (by omega)⟩
  case rest =>
    obtain ⟨g5, g6, g7, rfl, hRF⟩ := hcut
    clear B3 P6R P7R lt3
    obtain ⟨c0, c1, o5, o6, b7⟩ := hRF
    have hmk := made_n N (by omega)
    have l7 := block_lt_of_cell c0
    have l5 := o5.lt
    have l6 := o6.lt
    have s7 := b7.size
    have HO5 := Lib.hid o5
    have HO6 := Lib.hid o6
    have HC0 := Lib.hid c0
    have HC1 := Lib.hid c1
    clear o5 o6 c1
    go_wp2_with fail
    clear hmk c0
    go_loopw [9, 31] (fun _ i wr => ∃ k : Nat, i = .int .i64 k ∧ k ≤ N ∧ Own wr wc.heap.size N (fun j => if j < k then C j else 0) ∧ Below wc.heap.size wc wr) (fun _ i _ => N - (intOf i).toNat)
    case atStart =>
      refine ⟨0, rfl, Nat.zero_le _, ?_, below_alloc wc _⟩
      exact (World.rowIs_made wc (.int .i64 0) N 3).congr fun j _ => by simp
    case round =>
      obtain ⟨k, rfl, hk, ho, hb⟩ := hrel
      by_cases h1 : k < N
      · have hd1 : decide ((k : Int) < N) = true := decide_eq_true (by omega)
        have kS : ConvS g7 g5 g6 k N (X6 k) (X7 k) wr := (show ConvS g7 g5 g6 k N (X6 k) (X7 k) wc from ⟨HC0.out, HC1.out, HO5.out.cell h1, HO6.out.cell h1⟩).keep hb l7 l5 l6
        have kS2 : ConvS g7 g5 g6 k N (X6 k) (X7 k) wr.drew := kS
        have hb2 : Below wc.heap.size wc wr.drew := hb.drew
        have ho2 : Own wr.drew wc.heap.size N (fun j => if j < k then C j else 0) := ho
        have x6 := HB6.out k
        have x7 := HB7.out k
        have HCC := Lib.hid (center_c (X6 k) (X7 k) wr.drew (HTB.out _ (below_up b7 hb2 b7.size)) x6.1 x6.2 x7.1 x7.2)
        have HCK := Lib.hid (HCE.out k h1)
        have hsz := hb2.size
        have g7r : g7 < wr.drew.heap.size := by omega
        have g5r : g5 < wr.drew.heap.size := by omega
        have g6r : g6 < wr.drew.heap.size := by omega
        have hkN : (k : Int) < N := by omega
        clear ho hb
        go_wp2_with fail
        go_region_held3 (fun W => W.cell? ⟨g7, 0, none⟩ = some (.slice (some ⟨g5, 0, none⟩) N N) ∧ W.cell? ⟨g7, 1, none⟩ = some (.slice (some ⟨g6, 0, none⟩) N N) ∧ W.cell? ⟨g5, k, none⟩ = some (.int .i64 (X6 k)) ∧ W.cell? ⟨g6, k, none⟩ = some (.int .i64 (X7 k)))
          (first | exact kS | exact kS2 | exact kS8 | exact kS8.set l7 l5 l6 | go_keep)
          (first
            | (go_at_call 31; refine HCC.out.mono ?_; rintro e w8 ⟨rfl, b8⟩; have kS8 := kS2.keep b8 g7r g5r g6r; have o8 := ho2.keep b8; have hb8 := below_up hb2 b8 hb2.size; have c8 := World.rowIs.cell o8 h1; have f8 := World.rowIs.frozen o8 k))
        have HS := Lib.hid (own_step (F := C) o8)
        have HE := Lib.hid HCK.out
        rw [HE.out]
        have HB8 := Lib.hid (hb8.setCell (p := ⟨wc.heap.size, k, none⟩) (Nat.le_refl _) (.int .i64 (C k)))
        clear kS kS2 kS8 o8 hb8 b8 c8 f8 ho2 hb2
        go_wp2
        go_roundw
        case rel => exact ⟨k + 1, by go_num, by omega, HS.out, HB8.out⟩
        case measure => simp [intOf]; omega
      · have hd1 : decide ((k : Int) < N) = false := decide_eq_false (by omega)
        obtain rfl : k = N := by omega
        have HF := Lib.hid (HOG.out wc.heap.size wr (by omega) (own_congr ho rfl (fun j hj => by simp [hj])) (below_up b7 hb b7.size))
        clear ho
        go_wp2
        go_ret
        exact HF.out
end Go.Proofs.YtaapmpjkcddabaaDoor
namespace Go.Proofs.YtaapmpjkcddabaaDoor
open Go.RowKit
set_option maxHeartbeats 800000 in
theorem areTerms_some (b off n cap : Nat) (l : List Int) (w : World) (hl : l.length = n) (hn : n ≤ 200) (hc : ∀ j, j < n → w.cell? ⟨b, off + j, none⟩ = some (.int .i64 (lf l j))) :
    Calls Tryd.prog 33 #[.slice (some ⟨b, off, none⟩) n cap] w (SameB w (mTerms l)) := by
  have HC := Lib.hid hc
  have hd : decide ((200 : Int) < n) = false := decide_eq_false (by omega)
  have HY : Hid ((∀ j, j < n → -1000000 ≤ lf l j ∧ lf l j ≤ 1000000) → mTerms l = true) := Lib.hid fun h => terms_iff.2 ⟨by omega, by rw [hl]; exact h⟩
  have HN : Hid (∀ k, k < n → ¬ (-1000000 ≤ lf l k ∧ lf l k ≤ 1000000) → mTerms l = false) := Lib.hid fun k hk h => terms_not.2 fun ht => h (ht.2 k (by omega))
  clear hc hl
  generalize lf l = F at *
  generalize mTerms l = R at *
  go_enter Tryd.func33, Tryd.ntmps33
  go_wp2_with fail
  go_loop [4, 10] (fun _ i => ∃ k : Nat, i = .int .i64 k ∧ k ≤ n ∧ Hid (∀ j, j < k → -1000000 ≤ F j ∧ F j ≤ 1000000)) (fun _ i => n - (intOf i).toNat)
  case atStart => exact ⟨0, rfl, Nat.zero_le _, Lib.hid (fun j hj => by omega)⟩
  case round =>
    obtain ⟨k, rfl, hk, HA⟩ := hrel
    by_cases h1 : k < n
    · have hd1 : decide ((k : Int) < n) = true := decide_eq_true (by omega)
      have c1 : w.cell? ⟨b, off + k, none⟩ = some (.int .i64 (F k)) := HC.out k h1
      by_cases h2 : F k < -1000000
      · have HD : decide (F k < -1000000) = true := decide_eq_true h2
        have HR := Lib.hid (HN.out k h1 (by omega))
        clear h2
        go_wp2
        go_ret
        exact ⟨by rw [HR.out]; rfl, rfl⟩
      · have HD : decide (F k < -1000000) = false := decide_eq_false h2
        by_cases h3 : 1000000 < F k
        · have HD2 : decide (1000000 < F k) = true := decide_eq_true h3
          have HR := Lib.hid (HN.out k h1 (by omega))
          clear h2 h3
          go_wp2
          go_ret
          exact ⟨by rw [HR.out]; rfl, rfl⟩
        · have HD2 : decide (1000000 < F k) = false := decide_eq_false h3
          have HA2 : Hid (∀ j, j < k + 1 → -1000000 ≤ F j ∧ F j ≤ 1000000) := Lib.hid (fun j hj => by
            by_cases e : j = k
            · subst e; omega
            · exact HA.out j (by omega))
          clear HA h2 h3
          go_wp2
          go_round
          case rel => exact ⟨k + 1, by go_num, by omega, HA2⟩
          case measure => simp [intOf]; omega
    · have hd1 : decide ((k : Int) < n) = false := decide_eq_false (by omega)
      obtain rfl : k = n := by omega
      have HR := Lib.hid (HY.out HA.out)
      go_wp2
      go_ret
      exact ⟨by rw [HR.out]; rfl, rfl⟩
theorem areTerms_c (a : Option Addr) (l : List Int) (cap : Nat) (w : World) (hn : l.length ≤ 1048576) (hs : Src w a l.length (lf l)) : Calls Tryd.prog 33 #[.slice a l.length cap] w (SameB w (mTerms l)) := by
  by_cases h2 : l.length ≤ 200
  · rcases hs with h | ⟨b, off, rfl, hlt, hc⟩
    · have HR := Lib.hid (terms_iff.2 (⟨h2, fun j hj => by omega⟩ : TermsOk l))
      rw [h]
      clear h h2 hn
      go_enter Tryd.func33, Tryd.ntmps33
      go_wp2_with fail
      refine wp_loop_rounds 1 ?_
      rw [rounds_succ]
      go_wp2
      go_ret
      exact ⟨by rw [HR.out]; rfl, rfl⟩
    · exact areTerms_some b off l.length cap l w rfl h2 hc
  · have HR := Lib.hid (terms_not.2 fun h : TermsOk l => h2 h.1)
    have hd : decide ((200 : Int) < l.length) = true := decide_eq_true (by omega)
    clear hs h2
    go_enter Tryd.func33, Tryd.ntmps33
    go_wp2
    go_ret
    exact ⟨by rw [HR.out]; rfl, rfl⟩
theorem TermsOk.b {l : List Int} (h : TermsOk l) : TermsB l := ⟨by have := h.1; omega, terms_all h⟩
theorem iConvExact (a : Option Addr) (l : List Int) (cap : Nat) (a2 : Option Addr) (m : List Int) (cap2 : Nat) (w : World) (hn : l.length ≤ 1048576) (hn2 : m.length ≤ 1048576) (hs : Src w a l.length (lf l)) (hs2 : Src w a2 m.length (lf m)) (ht : Tab w) :
    Calls Tryd.prog 16 #[.slice a l.length cap, .slice a2 m.length cap2] w (OwnLB w (mConvExact0 l m) (mConvExact1 l m)) := by
  have R1 := areTerms_c a l cap w hn hs
  have R2 := areTerms_c a2 m cap2 w hn2 hs2
  by_cases h1 : TermsOk l
  · rw [terms_iff.2 h1] at R1
    by_cases h2 : TermsOk m
    · rw [terms_iff.2 h2] at R2
      rw [show mConvExact0 l m = ceL l m by unfold mConvExact0; rw [if_pos ⟨h1, h2⟩], show mConvExact1 l m = true by unfold mConvExact1; simp [h1, h2]]
      have R3 := convolve_c a l cap a2 m cap2 w ht h1.b h2.b hs hs2
      clear hs hs2 h1 h2
      go_enter Tryd.func16, Tryd.ntmps16
      go_wp2_with fail
      refine R1.mono ?_
      rintro e w' ⟨rfl, rfl⟩
      go_wp2_with fail
      refine R2.mono ?_
      rintro e w' ⟨rfl, rfl⟩
      go_wp2_with fail
      refine R3.mono ?_
      rintro e w1 ⟨g, rfl, hg, ho, hb⟩
      have HO := Lib.hid ho
      clear ho
      go_wp2
      go_ret2
      exact ⟨_, _, rfl, .inr ⟨g, rfl, rfl, hg, HO.out⟩, hb⟩
    · rw [terms_not.2 h2] at R2
      rw [show mConvExact0 l m = [] by unfold mConvExact0; rw [if_neg fun h => h2 h.2], show mConvExact1 l m = false by unfold mConvExact1; simp [h2]]
      clear hs hs2 h1 h2
      go_enter Tryd.func16, Tryd.ntmps16
      go_wp2_with fail
      refine R1.mono ?_
      rintro e w' ⟨rfl, rfl⟩
      go_wp2_with fail
      refine R2.mono ?_
      rintro e w' ⟨rfl, rfl⟩
      go_wp2
      go_ret2
      exact ⟨none, 0, rfl, .inl ⟨rfl, rfl, rfl⟩, Below.refl _ _⟩
  · rw [terms_not.2 h1] at R1
    rw [show mConvExact0 l m = [] by unfold mConvExact0; rw [if_neg fun h => h1 h.1], show mConvExact1 l m = false by unfold mConvExact1; simp [h1]]
    clear hs hs2 h1 R2
    go_enter Tryd.func16, Tryd.ntmps16
    go_wp2_with fail
    refine R1.mono ?_
    rintro e w' ⟨rfl, rfl⟩
    go_wp2
    go_ret2
    exact ⟨none, 0, rfl, .inl ⟨rfl, rfl, rfl⟩, Below.refl _ _⟩
end Go.Proofs.YtaapmpjkcddabaaDoor
namespace Go.Proofs.YtaapmpjkcddabaaDoor
open Go.RowKit
/-- The digits of a text, the least first; zeros behind. -/
def digF (s : ByteArray) (j : Nat) : Int := if j < s.size then bt s (s.size - 1 - j) - 48 else 0
theorem digF_rev {s : ByteArray} {k : Nat} (h : k < s.size) : digF s (s.size - 1 - k) = bt s k - 48 := by
  unfold digF
  rw [if_pos (by omega), show s.size - 1 - (s.size - 1 - k) = k by omega]
/-- The number of a numeral. -/
def numV (s : ByteArray) : Int := dv (digF s) s.size
theorem DigOk.dig {s : ByteArray} (h : DigOk s) : Dig (digF s) s.size := fun i hi => by
  have := h.2.1 (s.size - 1 - i) (by omega)
  unfold digF
  rw [if_pos hi]
  omega
theorem DigOk.can {s : ByteArray} (h : DigOk s) : Can (digF s) s.size := by
  refine ⟨h.dig, h.1.1, ?_⟩
  rcases h.2.2 with h1 | h1
  · right
    have := digF_rev (s := s) (k := 0) (by have := h.1.1; omega)
    rw [Nat.sub_zero] at this
    rw [this]
    omega
  · exact .inl h1
noncomputable def mModText (s : ByteArray) (f : Int) : Int := if mDigitsOk s = true ∧ 0 ≤ f ∧ f ≤ 8 then RS (numV s) (P f) else -1
set_option maxHeartbeats 1600000 in
theorem sModText (s : ByteArray) (f : Int) (w : World) (hs : s.size ≤ 1048576) : Calls Tryd.prog 20 #[.string s, .int .i64 f] w (IntP w (mModText s f)) := by
  have R1 := sDigitsOk s w hs
  by_cases h1 : mDigitsOk s = true
  · rw [h1] at R1
    have hd := dig_iff.1 h1
    by_cases hf : 0 ≤ f ∧ f ≤ 8
    · have HM : Hid (mModText s f = RS (numV s) (P f)) := Lib.hid (if_pos ⟨h1, hf⟩)
      have hp := P_bd hf.1 hf.2
      have hz : (P f == 0) = false := by simp; omega
      have HMU : Hid (∀ x y w, Calls Tryd.prog 26 #[.int .i64 f, .int .i64 x, .int .i64 y] w fun e w' => e = .returned (.int .i64 (RS (x * y) (P f))) ∧ w = w') := Lib.hid fun x y w => by have := sMul f x y w; rwa [mMul, if_pos hf] at this
      have HAD : Hid (∀ x y w, Calls Tryd.prog 36 #[.int .i64 f, .int .i64 x, .int .i64 y] w fun e w' => e = .returned (.int .i64 (RS (x + y) (P f))) ∧ w = w') := Lib.hid fun x y w => by have := sAdd f x y w; rwa [mAdd, if_pos hf] at this
      have HST : Hid (∀ k, k < s.size → RS (RS (RS (topV (digF s) s.size k) (P f) * 10) (P f) + (bt s k - 48)) (P f) = RS (topV (digF s) s.size (k + 1)) (P f)) := Lib.hid fun k hk => by
        rw [topV, digF_rev hk]
        unfold RS
        exact emod_add_congr (by rw [Int.emod_emod_of_dvd _ (Int.dvd_refl _), Int.mul_emod, Int.emod_emod_of_dvd _ (Int.dvd_refl _), ← Int.mul_emod]) rfl
      have HEND : Hid (topV (digF s) s.size s.size = numV s) := Lib.hid (topV_all _ _)
      have HDB : Hid (∀ k, k < s.size → 48 ≤ bt s k ∧ bt s k ≤ 57) := Lib.hid hd.2.1
      have HR1 := Lib.hid R1
      have hs3 := hd.1.2
      clear R1 h1 hd
      go_enter Tryd.func20, Tryd.ntmps20
      go_wp2_with fail
      refine HR1.out.mono ?_
      rintro e w' ⟨rfl, rfl⟩
      go_wp2_with fail
      refine (sModulus f w).mono ?_
      rintro e w' ⟨rfl, rfl⟩
      go_wp2_with fail
      go_loopw [5, 6] (fun u i wr => ∃ k : Nat, i = .int .i64 k ∧ k ≤ s.size ∧ u = .int .i64 (RS (topV (digF s) s.size k) (P f)) ∧ Below w.heap.size w wr) (fun _ i _ => s.size - (intOf i).toNat)
      case atStart => exact ⟨0, rfl, Nat.zero_le _, by simp [topV, RS], Below.refl _ _⟩
      case round =>
        obtain ⟨k, rfl, hk, rfl, hb⟩ := hrel
        by_cases h2 : k < s.size
        · have hd1 : decide ((k : Int) < s.size) = true := decide_eq_true (by omega)
          have hbt := bt_get h2
          have hbb := HDB.out k h2
          have HS := Lib.hid (HST.out k h2)
          rw [hbt] at HS hbb
          clear hbt
          have i1 : (0 : Int) ≤ (k : Int) := by omega
          have i2 : (k : Int) < (s.size : Int) := by omega
          have q0 : IntKind.i64.wrap (s[k].toNat : Int) = (s[k].toNat : Int) := IntWalk.i64_in _ (by omega)
          have q1 : IntKind.i64.wrap ((s[k].toNat : Int) - 48) = (s[k].toNat : Int) - 48 := IntWalk.i64_in _ (by omega)
          generalize RS (topV (digF s) s.size k) (P f) = X at *
          go_wp2
          go_quiet ((first | (go_at_call 26; exact quiet_left (HMU.out X 10 _)) | (go_at_call 36; exact quiet_left (HAD.out (RS (X * 10) (P f)) ((s[k].toNat : Int) - 48) _))))
          go_wp2
          go_roundw
          case rel => exact ⟨k + 1, by go_num, by omega, vint HS.out, below_drewN hb _⟩
          case measure => simp [intOf]; omega
        · have hd1 : decide ((k : Int) < s.size) = false := decide_eq_false (by omega)
          obtain rfl : k = s.size := by omega
          go_wp2
          go_ret
          exact ⟨by rw [HM.out, ← HEND.out]; rfl, hb⟩
    · have HM : Hid (mModText s f = -1) := Lib.hid (if_neg fun h => hf h.2)
      have hz : (P f == 0) = true := by simp [P_off (f := f) (by omega)]
      have HR1 := Lib.hid R1
      clear R1 h1 hd hf
      go_enter Tryd.func20, Tryd.ntmps20
      go_wp2_with fail
      refine HR1.out.mono ?_
      rintro e w' ⟨rfl, rfl⟩
      go_wp2_with fail
      refine (sModulus f w).mono ?_
      rintro e w' ⟨rfl, rfl⟩
      go_wp2
      go_ret
      exact ⟨by rw [HM.out]; rfl, Below.refl _ _⟩
  · have h1f : mDigitsOk s = false := by simpa using h1
    rw [h1f] at R1
    have HM : Hid (mModText s f = -1) := Lib.hid (if_neg fun h => h1 h.1)
    have HR1 := Lib.hid R1
    clear R1 h1 h1f
    go_enter Tryd.func20, Tryd.ntmps20
    go_wp2_with fail
    refine HR1.out.mono ?_
    rintro e w' ⟨rfl, rfl⟩
    go_wp2
    go_ret
    exact ⟨by rw [HM.out]; rfl, Below.refl _ _⟩
end Go.Proofs.YtaapmpjkcddabaaDoor
namespace Go.Proofs.YtaapmpjkcddabaaDoor
open Go.RowKit
set_option maxHeartbeats 1600000 in
theorem iDigitsOk (s : ByteArray) (w : World) (hs : s.size ≤ 1048576) : Calls Tryd.prog 37 #[.string s] w (SameB w (mDigitsOk s)) := by
  by_cases h1 : 1 ≤ s.size ∧ s.size ≤ 300
  · have HN : Hid (∀ k, k < s.size → ¬ (48 ≤ bt s k ∧ bt s k ≤ 57) → mDigitsOk s = false) := Lib.hid fun k hk h => dig_not.2 fun hd => h (hd.2.1 k hk)
    have HE : Hid ((∀ j, j < s.size → 48 ≤ bt s j ∧ bt s j ≤ 57) → ∀ B : Bool, (B = true ↔ (bt s 0 ≠ 48 ∨ s.size = 1)) → mDigitsOk s = B) := Lib.hid fun ha B hB => by
      cases B
      · exact dig_not.2 fun hd => by have := hB.2 hd.2.2; cases this
      · exact dig_iff.2 ⟨h1, ha, hB.1 rfl⟩
    have z1 : decide ((s.size : Int) < 1) = false := decide_eq_false (by omega)
    have z2 : decide ((300 : Int) < s.size) = false := decide_eq_false (by omega)
    go_enter Tryd.func37, Tryd.ntmps37
    go_wp2_with fail
    go_loop [3, 14] (fun _ i => ∃ k : Nat, i = .int .i64 k ∧ k ≤ s.size ∧ Hid (∀ j, j < k → 48 ≤ bt s j ∧ bt s j ≤ 57)) (fun _ i => s.size - (intOf i).toNat)
    case atStart => exact ⟨0, rfl, Nat.zero_le _, Lib.hid (fun j hj => by omega)⟩
    case round =>
      obtain ⟨k, rfl, hk, HA⟩ := hrel
      by_cases h2 : k < s.size
      · have hd1 : decide ((k : Int) < s.size) = true := decide_eq_true (by omega)
        have i1 : (0 : Int) ≤ (k : Int) ∧ (k : Int) < s.size := by omega
        have hb := bt_get h2
        by_cases hlo : (s[k].toNat : Int) < 48
        · have dlo : decide ((s[k].toNat : Int) < 48) = true := decide_eq_true hlo
          have HR := Lib.hid (HN.out k h2 (by omega))
          go_wp2
          go_ret
          exact ⟨by rw [HR.out]; rfl, rfl⟩
        · have dlo : decide ((s[k].toNat : Int) < 48) = false := decide_eq_false hlo
          by_cases hhi : 57 < (s[k].toNat : Int)
          · have dhi : decide (57 < (s[k].toNat : Int)) = true := decide_eq_true hhi
            have HR := Lib.hid (HN.out k h2 (by omega))
            go_wp2
            go_ret
            exact ⟨by rw [HR.out]; rfl, rfl⟩
          · have dhi : decide (57 < (s[k].toNat : Int)) = false := decide_eq_false hhi
            have HA2 : Hid (∀ j, j < k + 1 → 48 ≤ bt s j ∧ bt s j ≤ 57) := Lib.hid (fun j hj => by
              by_cases e : j = k
              · subst e; omega
              · exact HA.out j (by omega))
            clear HA hb
            go_wp2
            go_round
            case rel => exact ⟨k + 1, by go_num, by omega, HA2⟩
            case measure => simp [intOf]; omega
      · have hd1 : decide ((k : Int) < s.size) = false := decide_eq_false (by omega)
        obtain rfl : k = s.size := by omega
        have h0 : 0 < s.size := by omega
        have hb := bt_get h0
        have HE2 := Lib.hid (HE.out HA.out)
        clear HA HE HN
        by_cases hz : (s[0].toNat : Int) = 48
        · have dz : ((s[0].toNat : Int) != 48) = false := by simp [hz]
          by_cases h11 : s.size = 1
          · have d1 : ((s.size : Int) == 1) = true := by simp [h11]
            have HR := Lib.hid (HE2.out true ⟨fun _ => .inr h11, fun _ => rfl⟩)
            clear h11 hb hz
            go_wp2
            go_ret
            exact ⟨by rw [HR.out]; rfl, rfl⟩
          · have d1 : ((s.size : Int) == 1) = false := by rw [beq_eq_false_iff_ne]; omega
            have HR := Lib.hid (HE2.out false ⟨(fun h => by cases h), (fun h => by rcases h with h | h <;> omega)⟩)
            clear h11 hb hz
            go_wp2
            go_ret
            exact ⟨by rw [HR.out]; rfl, rfl⟩
        · have dz : ((s[0].toNat : Int) != 48) = true := by rw [bne_iff_ne]; exact hz
          have HR := Lib.hid (HE2.out true ⟨fun _ => .inl (by omega), fun _ => rfl⟩)
          clear hb hz
          go_wp2
          go_ret
          exact ⟨by rw [HR.out]; rfl, rfl⟩
  · have HB := Lib.hid (dig_not.2 fun h : DigOk s => h1 h.1)
    by_cases h2 : s.size < 1
    · have z1 : decide ((s.size : Int) < 1) = true := decide_eq_true (by omega)
      clear h1 h2
      go_enter Tryd.func37, Tryd.ntmps37
      go_wp2
      go_ret
      exact ⟨by rw [HB.out]; rfl, rfl⟩
    · have z1 : decide ((s.size : Int) < 1) = false := decide_eq_false (by omega)
      have z2 : decide ((300 : Int) < s.size) = true := decide_eq_true (by omega)
      clear h1 h2
      go_enter Tryd.func37, Tryd.ntmps37
      go_wp2
      go_ret
      exact ⟨by rw [HB.out]; rfl, rfl⟩
end Go.Proofs.YtaapmpjkcddabaaDoor
namespace Go.Proofs.YtaapmpjkcddabaaDoor
open Go.RowKit
set_option maxHeartbeats 1600000 in
theorem iModText (s : ByteArray) (f : Int) (w : World) (hs : s.size ≤ 1048576) (ht : Tab w) : Calls Tryd.prog 21 #[.string s, .int .i64 f] w (IntP w (mModText s f)) := by
  have R1 := iDigitsOk s w hs
  by_cases h1 : mDigitsOk s = true
  · rw [h1] at R1
    have hd := dig_iff.1 h1
    by_cases hf : 0 ≤ f ∧ f ≤ 8
    · have HM : Hid (mModText s f = RS (numV s) (P f)) := Lib.hid (if_pos ⟨h1, hf⟩)
      have hp := P_bd hf.1 hf.2
      have HST : Hid (∀ k, k < s.size → RS (RS (topV (digF s) s.size k) (P f) * 10 + (bt s k - 48)) (P f) = RS (topV (digF s) s.size (k + 1)) (P f)) := Lib.hid fun k hk => by
        rw [topV, digF_rev hk]
        unfold RS
        exact emod_add_congr (by rw [Int.mul_emod, Int.emod_emod_of_dvd _ (Int.dvd_refl _), ← Int.mul_emod]) rfl
      have HEND : Hid (topV (digF s) s.size s.size = numV s) := Lib.hid (topV_all _ _)
      have HDB : Hid (∀ k, k < s.size → 48 ≤ bt s k ∧ bt s k ≤ 57) := Lib.hid hd.2.1
      have HR1 := Lib.hid R1
      have HRE : Hid (∀ x, Calls Tryd.prog 39 #[.int .i64 f, .int .i64 x] w fun e w' => e = .returned (.int .i64 (RS x (P f))) ∧ w = w') := Lib.hid fun x => reduce_c f x w ht hf.1 hf.2
      have HBX : Hid (∀ x, 0 ≤ RS x (P f) ∧ RS x (P f) < P f) := Lib.hid fun x => RS_bd (by omega)
      have hs3 := hd.1.2
      clear R1 h1 hd
      go_enter Tryd.func21, Tryd.ntmps21
      go_wp2_with fail
      refine HR1.out.mono ?_
      rintro e w' ⟨rfl, rfl⟩
      go_wp2_with fail
      refine (known_yes f w hf.1 hf.2).mono ?_
      rintro e w' ⟨rfl, rfl⟩
      go_wp2_with fail
      go_loop [6, 7, 19] (fun u _ i => ∃ k : Nat, i = .int .i64 k ∧ k ≤ s.size ∧ u = .int .i64 (RS (topV (digF s) s.size k) (P f))) (fun _ _ i => s.size - (intOf i).toNat)
      case atStart => exact ⟨0, rfl, Nat.zero_le _, by simp [topV, RS]⟩
      case round =>
        obtain ⟨k, rfl, hk, rfl⟩ := hrel
        by_cases h2 : k < s.size
        · have hd1 : decide ((k : Int) < s.size) = true := decide_eq_true (by omega)
          have hbt := bt_get h2
          have hbb := HDB.out k h2
          have HS := Lib.hid (HST.out k h2)
          have hx := HBX.out (topV (digF s) s.size k)
          rw [hbt] at HS hbb
          clear hbt
          have i1 : (0 : Int) ≤ (k : Int) ∧ (k : Int) < s.size := by omega
          have q0 : IntKind.u8.wrap ((s[k].toNat : Int) - 48) = (s[k].toNat : Int) - 48 := IntWalk.u8_in _ (by omega)
          generalize RS (topV (digF s) s.size k) (P f) = X at *
          go_wp2_with fail
          refine (HRE.out _).mono ?_
          rintro e w' ⟨rfl, rfl⟩
          rw [HS.out]
          go_wp2
          go_round
          case rel => exact ⟨k + 1, by go_num, by omega, rfl⟩
          case measure => simp [intOf]; omega
        · have hd1 : decide ((k : Int) < s.size) = false := decide_eq_false (by omega)
          obtain rfl : k = s.size := by omega
          go_wp2
          go_ret
          exact ⟨by rw [HM.out, ← HEND.out]; rfl, Below.refl _ _⟩
    · have HM : Hid (mModText s f = -1) := Lib.hid (if_neg fun h => hf h.2)
      have HR1 := Lib.hid R1
      have HK := Lib.hid (known_no f w (by omega))
      clear R1 h1 hd hf
      go_enter Tryd.func21, Tryd.ntmps21
      go_wp2_with fail
      refine HR1.out.mono ?_
      rintro e w' ⟨rfl, rfl⟩
      go_wp2_with fail
      refine HK.out.mono ?_
      rintro e w' ⟨rfl, rfl⟩
      go_wp2
      go_ret
      exact ⟨by rw [HM.out]; rfl, Below.refl _ _⟩
  · have h1f : mDigitsOk s = false := by simpa using h1
    rw [h1f] at R1
    have HM : Hid (mModText s f = -1) := Lib.hid (if_neg fun h => h1 h.1)
    have HR1 := Lib.hid R1
    clear R1 h1 h1f
    go_enter Tryd.func21, Tryd.ntmps21
    go_wp2_with fail
    refine HR1.out.mono ?_
    rintro e w' ⟨rfl, rfl⟩
    go_wp2
    go_ret
    exact ⟨by rw [HM.out]; rfl, Below.refl _ _⟩
end Go.Proofs.YtaapmpjkcddabaaDoor
