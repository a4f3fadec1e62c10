/-
  Texts of the proofs of this seat, joined (part 4).
-/
import Derived.Test.YtangofjpnhhfeabDoorJ3
namespace Go.Proofs.YtangofjpnhhfeabDoor
open Go.RowKit
/-- The barycentric weights. -/
def wtX (f : Int) (X : Nat → Int) (n : Nat) : List Int := tab n fun i => mPower f (byF f X i n) (-1)
theorem wtX_len (f : Int) (X : Nat → Int) (n : Nat) : (wtX f X n).length = n := tab_len _ _
theorem OwnsL.form {w w' : World} {l : List Int} {e : Ending} (h : OwnsL w l e w') (n1 : 1 ≤ l.length) : ∃ g c, e = .returned (.slice (some ⟨g, 0, none⟩) l.length c) ∧ w.heap.size ≤ g ∧ Src w' (some ⟨g, 0, none⟩) l.length (lf l) ∧ Below w.heap.size w w' := by
  obtain ⟨v, rfl, ho, hb⟩ := h
  obtain ⟨g, c, rfl, hg, hv⟩ := OwnV.of_owns ho (by omega)
  exact ⟨g, c, rfl, hg, hv.src, hb⟩
set_option maxRecDepth 100000 in
set_option maxHeartbeats 3200000 in
theorem weights_c (f : Int) (h0 : 0 ≤ f) (h8 : f ≤ 8) (d b g n : Nat) (pl pr : Option Addr) (X : Nat → Int) (w : World) (hT : TreeW f w d (some ⟨b, 0, none⟩) X n) (hN : NodeW w b f g n pl pr) (hO : Own w g (n + 1) (lf (vanL f X n))) (n1 : 1 ≤ n) (h40 : n ≤ 40) (ht : Tab w) (hd : DistinctS f X n) :
    Calls Tryd.prog 64 #[.pointer (some ⟨b, 0, none⟩)] w (OwnG w (wtX f X n)) := by
  have hv := vanL_len h0 h8 X n
  have hdl := derL_le f (vanL f X n)
  have hdp := pol_derL h0 h8 (vanL f X n)
  have PD : Hid (∀ W, Below w.heap.size w W → Calls Tryd.prog 97 #[.int .i64 f, .slice (some ⟨g, 0, none⟩) (n + 1) (n + 1)] W (OwnG W (derL f (vanL f X n)))) := Lib.hid fun W hb => by
    have := der_c f (some ⟨g, 0, none⟩) (vanL f X n) (n + 1) W (ht.below hb) h0 h8 (by omega) (vanL_pol h0 h8 _ _) (by rw [hv]; exact (hO.keep hb).src)
    rwa [hv] at this
  have PV : Hid (∀ (g1 : Nat) W, Below w.heap.size w W → Own W g1 (derL f (vanL f X n)).length (lf (derL f (vanL f X n))) → Calls Tryd.prog 58 #[.pointer (some ⟨b, 0, none⟩), .slice (some ⟨g1, 0, none⟩) (derL f (vanL f X n)).length (derL f (vanL f X n)).length] W (fun e w' => ∃ g2 c2, e = .returned (.slice (some ⟨g2, 0, none⟩) n c2) ∧ Src w' (some ⟨g2, 0, none⟩) n (fun j => evL f (X j) (derL f (vanL f X n))) ∧ Below W.heap.size W w')) := Lib.hid fun g1 W hb ho => by
    refine (values_c f h0 h8 d _ X n (some ⟨g1, 0, none⟩) (derL f (vanL f X n)) _ W (hT.keep hb) h40 (ht.below hb) hdp (by omega) ho.src).mono fun e w' h => ?_
    obtain ⟨g2, c2, h1, h2, h3, h4⟩ := h.form (by rw [valsL_len]; exact n1)
    rw [valsL_len] at h1 h3
    refine ⟨g2, c2, h1, ?_, h4⟩
    rcases h3 with h3 | ⟨b3, o3, e3, l3, c3⟩
    · exact .inl h3
    · exact .inr ⟨b3, o3, e3, l3, fun j hj => by rw [c3 j hj, lf_valsL hj]⟩
  have PI : Hid (∀ (g2 c2 : Nat) W, Below w.heap.size w W → Src W (some ⟨g2, 0, none⟩) n (fun j => evL f (X j) (derL f (vanL f X n))) → Calls Tryd.prog 96 #[.int .i64 f, .slice (some ⟨g2, 0, none⟩) n c2] W (OwnG W (wtX f X n))) := Lib.hid fun g2 c2 W hb hs => by
    refine (inverses_c f (some ⟨g2, 0, none⟩) n c2 _ W (ht.below hb) h0 h8 (by omega) hs).mono fun e w' h => ?_
    obtain ⟨h1, h2, h3⟩ := h
    subst h1
    exact OwnG.of_own h2 (wtX_len f X n).symm (Nat.le_refl _) (fun j hj => by unfold wtX; rw [lf_tab, if_pos hj]; exact inv_van h0 h8 hd hj) h3
  have b0 : Below w.heap.size w w.drew := (Below.refl _ _).drew
  have k0 : w.drew.cell? ⟨b, 0, none⟩ = some (.int .i64 f) ∧ w.drew.cell? ⟨b, 1, none⟩ = some (.slice (some ⟨g, 0, none⟩) (n + 1) (n + 1)) := ⟨hN.1, hN.2.1⟩
  have HF : Hid (∀ e W W', Below w.heap.size w W → OwnG W (wtX f X n) e W' → OwnG w (wtX f X n) e W') := Lib.hid fun e W W' hb h => h.up hb
  clear hT hO ht hd hv hdl hdp
  generalize derL f (vanL f X n) = D at *
  generalize wtX f X n = V at *
  go_enter Tryd.func64, Tryd.ntmps64
  go_wp2_with fail
  go_region_held3 (fun W1 => W1.cell? ⟨b, 0, none⟩ = some (.int .i64 f) ∧ W1.cell? ⟨b, 1, none⟩ = some (.slice (some ⟨g, 0, none⟩) (n + 1) (n + 1)))
    (first | exact ⟨hN.1, hN.2.1⟩ | exact k0 | exact k1 | exact k2 | exact k3 | go_keep)
    (first
      | (go_at_call 97; refine (PD.out _ b0).mono ?_; rintro e w1 ⟨g1, rfl, hg1, o1, b1⟩; have b2 := below_up b0 b1 b0.size; have hN1 := hN.keep b2 hN.lt; have k1 : w1.cell? ⟨b, 0, none⟩ = some (.int .i64 f) ∧ w1.cell? ⟨b, 1, none⟩ = some (.slice (some ⟨g, 0, none⟩) (n + 1) (n + 1)) := ⟨hN1.1, hN1.2.1⟩)
      | (go_at_call 58; refine (PV.out g1 _ b2 o1).mono ?_; rintro e w2 ⟨g2, c2, rfl, s2, b3⟩; have b4 := below_up b2 b3 b2.size; have hN2 := hN.keep b4 hN.lt; have k2 : w2.cell? ⟨b, 0, none⟩ = some (.int .i64 f) ∧ w2.cell? ⟨b, 1, none⟩ = some (.slice (some ⟨g, 0, none⟩) (n + 1) (n + 1)) := ⟨hN2.1, hN2.2.1⟩)
      | (go_at_call 96; refine (PI.out g2 c2 _ b4 s2).mono ?_; intro e w3 h3; have HR := Lib.hid (HF.out _ _ _ b4 h3); obtain ⟨g3, rfl, hg3, o3, b5⟩ := h3; have b6 := below_up b4 b5 b4.size; have hN3 := hN.keep b6 hN.lt; have k3 : w3.cell? ⟨b, 0, none⟩ = some (.int .i64 f) ∧ w3.cell? ⟨b, 1, none⟩ = some (.slice (some ⟨g, 0, none⟩) (n + 1) (n + 1)) := ⟨hN3.1, hN3.2.1⟩))
  clear k0 k1 k2 k3 hN hN1 hN2 hN3 o1 s2 o3 PD PV PI HF b1 b3 b5
  go_wp2
  go_ret
  exact HR.out
def CombP (f : Int) (X S : Nat → Int) (n : Nat) (w : World) (e : Ending) (w' : World) : Prop := ∃ c, CombAt f X S n c ∧ OwnG w c e w'
set_option maxRecDepth 100000 in
theorem comb_leaf_c (f : Int) (h0 : 0 ≤ f) (h8 : f ≤ 8) (b g : Nat) (X S : Nat → Int) (aa : Option Addr) (cap : Nat) (w : World) (hN : NodeW w b f g 1 none none) (hS : 0 ≤ S 0 ∧ S 0 < P f) (hs : Src w aa 1 S) :
    Calls Tryd.prog 88 #[.pointer (some ⟨b, 0, none⟩), .slice aa 1 cap] w (CombP f X S 1 w) := by
  have PP : Hid (Calls Tryd.prog 71 #[.slice aa 1 cap] w (CombP f X S 1 w)) := Lib.hid ((poly_c aa 1 cap S w (by omega) hs).mono fun e w' h => ⟨_, by
    have := comb_leaf h0 h8 X S hS
    rwa [cutL_congr (G := S) (fun j hj => by obtain rfl : j = 0 := by omega
                                             rfl)] at this, h⟩)
  have c2 := hN.2.2.1
  clear hN hs hS
  go_enter Tryd.func88, Tryd.ntmps88
  go_wp2_with fail
  refine PP.out.mono ?_
  intro e w1 h1
  have HR := Lib.hid h1
  obtain ⟨c, _, g1, rfl, _⟩ := h1
  go_wp2
  go_ret
  exact HR.out
set_option maxRecDepth 100000 in
set_option maxHeartbeats 6400000 in
theorem comb_node_c (f : Int) (h0 : 0 ≤ f) (h8 : f ≤ 8) (b g n m k b1 g1 b2 g2 ba off cap : Nat) (pl1 pr1 pl2 pr2 : Option Addr) (X S : Nat → Int) (w : World) (m1 : 1 ≤ m) (k1 : 1 ≤ k) (hnm : n = m + k) (h40 : n ≤ 40) (hcap : n ≤ cap) (hN : NodeW w b f g n (some ⟨b1, 0, none⟩) (some ⟨b2, 0, none⟩))
    (hN1 : NodeW w b1 f g1 m pl1 pr1) (hN2 : NodeW w b2 f g2 k pl2 pr2) (hO1 : Own w g1 (m + 1) (lf (vanL f X m))) (hO2 : Own w g2 (k + 1) (lf (vanL f (fun j => X (m + j)) k))) (ht : Tab w)
    (CL : Hid (∀ W, Below w.heap.size w W → Calls Tryd.prog 88 #[.pointer (some ⟨b1, 0, none⟩), .slice (some ⟨ba, off, none⟩) m cap] W (CombP f X S m W)))
    (CR : Hid (∀ W, Below w.heap.size w W → Calls Tryd.prog 88 #[.pointer (some ⟨b2, 0, none⟩), .slice (some ⟨ba, off + m, none⟩) (n - m) (cap - m)] W (CombP f (fun j => X (m + j)) (fun j => S (m + j)) k W))) :
    Calls Tryd.prog 88 #[.pointer (some ⟨b, 0, none⟩), .slice (some ⟨ba, off, none⟩) n cap] w (CombP f X S n w) := by
  have v1 := vanL_len h0 h8 X m
  have v2 := vanL_len h0 h8 (fun j => X (m + j)) k
  have P1 : Hid (∀ (c : List Int) (g3 : Nat) W, CombAt f X S m c → Below w.heap.size w W → Own W g3 c.length (lf c) → Calls Tryd.prog 87 #[.int .i64 f, .slice (some ⟨g3, 0, none⟩) c.length c.length, .slice (some ⟨g2, 0, none⟩) (k + 1) (k + 1)] W (OwnG W (mulL f c (vanL f (fun j => X (m + j)) k)))) := Lib.hid fun c g3 W hc hb ho => by
    have := product_c f (some ⟨g3, 0, none⟩) (some ⟨g2, 0, none⟩) c (vanL f (fun j => X (m + j)) k) c.length (k + 1) W (ht.below hb) h0 h8 (by have := hc.2.1; omega) (by omega) hc.1 (vanL_pol h0 h8 _ _) ho.src (by rw [v2]; exact (hO2.keep hb).src)
    rwa [v2] at this
  have P2 : Hid (∀ (c : List Int) (g3 : Nat) W, CombAt f (fun j => X (m + j)) (fun j => S (m + j)) k c → Below w.heap.size w W → Own W g3 c.length (lf c) → Calls Tryd.prog 87 #[.int .i64 f, .slice (some ⟨g1, 0, none⟩) (m + 1) (m + 1), .slice (some ⟨g3, 0, none⟩) c.length c.length] W (OwnG W (mulL f (vanL f X m) c))) := Lib.hid fun c g3 W hc hb ho => by
    have := product_c f (some ⟨g1, 0, none⟩) (some ⟨g3, 0, none⟩) (vanL f X m) c (m + 1) c.length W (ht.below hb) h0 h8 (by omega) (by have := hc.2.1; omega) (vanL_pol h0 h8 _ _) hc.1 (by rw [v1]; exact (hO1.keep hb).src) ho.src
    rwa [v1] at this
  have PS : Hid (∀ (c e : List Int) (g3 g4 : Nat) W, CombAt f X S m c → CombAt f (fun j => X (m + j)) (fun j => S (m + j)) k e → Below w.heap.size w W → Own W g3 (mulL f c (vanL f (fun j => X (m + j)) k)).length (lf (mulL f c (vanL f (fun j => X (m + j)) k))) → Own W g4 (mulL f (vanL f X m) e).length (lf (mulL f (vanL f X m) e)) → Calls Tryd.prog 111 #[.int .i64 f, .slice (some ⟨g3, 0, none⟩) (mulL f c (vanL f (fun j => X (m + j)) k)).length (mulL f c (vanL f (fun j => X (m + j)) k)).length, .slice (some ⟨g4, 0, none⟩) (mulL f (vanL f X m) e).length (mulL f (vanL f X m) e).length] W (CombP f X S n W)) := Lib.hid fun c e g3 g4 W hc he hb o3 o4 => by
    have l1 := mulL_le f c (vanL f (fun j => X (m + j)) k)
    have l2 := mulL_le f (vanL f X m) e
    have l3 := hc.2.1
    have l4 := he.2.1
    refine (sum_c f _ _ _ _ _ _ W (ht.below hb) h0 h8 (by omega) (by omega) (pol_mulL h0 h8 _ _) (pol_mulL h0 h8 _ _) o3.src o4.src).mono fun _ _ h => ⟨_, ?_, h⟩
    subst hnm
    exact comb_node h0 h8 m1 k1 hc he
  have HF : Hid (∀ e W W', Below w.heap.size w W → CombP f X S n W e W' → CombP f X S n w e W') := Lib.hid fun e W W' hb ⟨c, h1, h2⟩ => ⟨c, h1, h2.up hb⟩
  have b0 : Below w.heap.size w w.drew := (Below.refl _ _).drew
  have a0 : w.cell? ⟨b, 0, none⟩ = some (.int .i64 f) := hN.1
  have a2 : w.cell? ⟨b, 2, none⟩ = some (.pointer (some ⟨b1, 0, none⟩)) := hN.2.2.1
  have a3 : w.cell? ⟨b, 3, none⟩ = some (.pointer (some ⟨b2, 0, none⟩)) := hN.2.2.2
  have a4 : w.cell? ⟨b1, 1, none⟩ = some (.slice (some ⟨g1, 0, none⟩) (m + 1) (m + 1)) := hN1.2.1
  have a5 : w.cell? ⟨b2, 1, none⟩ = some (.slice (some ⟨g2, 0, none⟩) (k + 1) (k + 1)) := hN2.2.1
  have kk : Hid (∀ W, Below w.heap.size w W → W.cell? ⟨b, 2, none⟩ = some (.pointer (some ⟨b1, 0, none⟩)) ∧ W.cell? ⟨b, 3, none⟩ = some (.pointer (some ⟨b2, 0, none⟩)) ∧ W.cell? ⟨b1, 1, none⟩ = some (.slice (some ⟨g1, 0, none⟩) (m + 1) (m + 1)) ∧ W.cell? ⟨b2, 1, none⟩ = some (.slice (some ⟨g2, 0, none⟩) (k + 1) (k + 1))) := Lib.hid fun W hb => ⟨(hN.keep hb hN.lt).2.2.1, (hN.keep hb hN.lt).2.2.2, (hN1.keep hb hN1.lt).2.1, (hN2.keep hb hN2.lt).2.1⟩
  have tok1 : True := trivial
  have tok2 : True := trivial
  have m0 : (0 : Int) ≤ (m : Int) := by omega
  have m2 : (m : Int) ≤ n := by omega
  have m3 : (n : Int) ≤ cap := by omega
  have m4 : (m : Int) ≤ cap := by omega
  have m5 : ¬ cap = m := by omega
  have m6 : ¬ m = 0 := by omega
  clear ht hO1 hO2 hN hN1 hN2 v1 v2 hnm hcap
  generalize vanL f X m = V1 at *
  generalize vanL f (fun j => X (m + j)) k = V2 at *
  go_enter Tryd.func88, Tryd.ntmps88
  go_wp2_with fail
  have k0 := kk.out _ (Below.refl _ _)
  have k1 := kk.out _ b0
  go_region_held3 (fun W1 => W1.cell? ⟨b, 2, none⟩ = some (.pointer (some ⟨b1, 0, none⟩)) ∧ W1.cell? ⟨b, 3, none⟩ = some (.pointer (some ⟨b2, 0, none⟩)) ∧ W1.cell? ⟨b1, 1, none⟩ = some (.slice (some ⟨g1, 0, none⟩) (m + 1) (m + 1)) ∧ W1.cell? ⟨b2, 1, none⟩ = some (.slice (some ⟨g2, 0, none⟩) (k + 1) (k + 1)))
    (first | exact k0 | exact k1 | exact k2 | exact k3 | go_keep)
    (first
      | (go_at_call 88; clear tok1; refine (CL.out _ b0).mono ?_; rintro e w1 ⟨cl, hcl, g3, rfl, hg3, o3, b3⟩; have b4 := below_up b0 b3 b0.size; have k2 := kk.out _ b4)
      | (go_at_call 88; refine (CR.out _ b4).mono ?_; rintro e w2 ⟨cr, hcr, g4, rfl, hg4, o4, b5⟩; have b6 := below_up b4 b5 b4.size; have k3 := kk.out _ b6))
  have o5 : Own w2.drew g3 cl.length (lf cl) := o3.keep b5.drew
  have o6 : Own w2.drew g4 cr.length (lf cr) := o4
  have b7 : Below w.heap.size w w2.drew := b6.drew
  have k4 := kk.out _ b7
  clear k0 k1 k2 a0 a2 a3 a4 a5 CL CR b0 b3 b4 b5 o3 o4
  go_wp2_with fail
  go_region_held3 (fun W1 => W1.cell? ⟨b, 2, none⟩ = some (.pointer (some ⟨b1, 0, none⟩)) ∧ W1.cell? ⟨b, 3, none⟩ = some (.pointer (some ⟨b2, 0, none⟩)) ∧ W1.cell? ⟨b1, 1, none⟩ = some (.slice (some ⟨g1, 0, none⟩) (m + 1) (m + 1)) ∧ W1.cell? ⟨b2, 1, none⟩ = some (.slice (some ⟨g2, 0, none⟩) (k + 1) (k + 1)))
    (first | exact k3 | exact k4 | exact k5 | exact k6 | exact k7 | go_keep)
    (first
      | (go_at_call 87; clear tok2; refine (P1.out cl g3 _ hcl b7 o5).mono ?_; rintro e w3 ⟨g5, rfl, hg5, o7, b8⟩; have b9 := below_up b7 b8 b7.size; have k5 := kk.out _ b9; have o8 := o6.keep b8)
      | (go_at_call 87; refine (P2.out cr g4 _ hcr b9 o8).mono ?_; rintro e w4 ⟨g6, rfl, hg6, o9, b10⟩; have b11 := below_up b9 b10 b9.size; have k6 := kk.out _ b11; have o10 := o7.keep b10)
      | (go_at_call 111; refine (PS.out cl cr g5 g6 _ hcl hcr b11 o10 o9).mono ?_; intro e w5 h5; have HR := Lib.hid (HF.out _ _ _ b11 h5); obtain ⟨c5, _, g7, rfl, _, _, b12⟩ := h5; have k7 := kk.out _ (below_up b11 b12 b11.size)))
  clear k3 k4 k5 k6 k7 o5 o6 o7 o8 o9 o10 P1 P2 PS HF kk b7 b8 b9 b10 b11 b12
  go_wp2
  go_ret
  exact HR.out
theorem comb_c (f : Int) (h0 : 0 ≤ f) (h8 : f ≤ 8) : ∀ (d : Nat) (p : Option Addr) (X S : Nat → Int) (n : Nat) (aa : Option Addr) (cap : Nat) (w : World), TreeW f w d p X n → 1 ≤ n → n ≤ 40 → n ≤ cap → Tab w → (∀ j, j < n → 0 ≤ S j ∧ S j < P f) → Src w aa n S → Calls Tryd.prog 88 #[.pointer p, .slice aa n cap] w (CombP f X S n w) := by
  intro d
  induction d with
  | zero => intro p X S n aa cap w h; exact absurd h (by intro h; exact h)
  | succ d ih =>
    rintro p X S n aa cap w ⟨b, g, pl, pr, rfl, hN, hO, hb⟩ n1 h40 hcap ht hS hs
    rcases hb with ⟨rfl, rfl, rfl⟩ | ⟨m, k, rfl, m1, k1, hL, hR⟩
    · exact comb_leaf_c f h0 h8 b g X S aa cap w hN (hS 0 (by omega)) hs
    · obtain ⟨ba, off, rfl, hlt, hc⟩ : ∃ ba off, aa = some ⟨ba, off, none⟩ ∧ ba < w.heap.size ∧ ∀ j, j < m + k → w.cell? ⟨ba, off + j, none⟩ = some (.int .i64 (S j)) := by
        rcases hs with h | h
        · omega
        · exact h
      have hL0 := hL
      have hR0 := hR
      cases d with
      | zero => exact absurd hL (by intro h; exact h)
      | succ d =>
        obtain ⟨b1, g1, pl1, pr1, rfl, hN1, hO1, _⟩ := hL0
        obtain ⟨b2, g2, pl2, pr2, rfl, hN2, hO2, _⟩ := hR0
        refine comb_node_c f h0 h8 b g (m + k) m k b1 g1 b2 g2 ba off cap pl1 pr1 pl2 pr2 X S w m1 k1 rfl h40 hcap hN hN1 hN2 hO1 hO2 ht (Lib.hid fun W hb => ?_) (Lib.hid fun W hb => ?_)
        · exact ih _ X S m _ cap W (hL.keep hb) m1 (by omega) (by omega) (ht.below hb) (fun j hj => hS j (by omega)) (.inr ⟨ba, off, rfl, Nat.lt_of_lt_of_le hlt hb.size, fun j hj => (hb.cell (p := ⟨ba, off + j, none⟩) hlt).trans (hc j (by omega))⟩)
        · rw [show m + k - m = k by omega]
          exact ih _ (fun j => X (m + j)) (fun j => S (m + j)) k _ (cap - m) W (hR.keep hb) k1 (by omega) (by omega) (ht.below hb) (fun j hj => hS (m + j) (by omega)) (.inr ⟨ba, off + m, rfl, Nat.lt_of_lt_of_le hlt hb.size, fun j hj => (hb.cell (p := ⟨ba, off + m + j, none⟩) hlt).trans (by rw [show off + m + j = off + (m + j) by omega]; exact hc (m + j) (by omega))⟩)
set_option maxRecDepth 100000 in
theorem pointwise_u (f : Int) (b off b2 off2 n cap cap2 : Nat) (A B : Nat → Int) (w : World) (ht : Tab w) (h0 : 0 ≤ f) (h8 : f ≤ 8) (hn : n ≤ 1048576) (hA : ∀ j, j < n → 0 ≤ A j ∧ A j < P f) (hB : ∀ j, j < n → 0 ≤ B j ∧ B j < P f) (hlt : b < w.heap.size) (hlt2 : b2 < w.heap.size)
    (hc : ∀ j, j < n → w.cell? ⟨b, off + j, none⟩ = some (.int .i64 (A j))) (hc2 : ∀ j, j < n → w.cell? ⟨b2, off2 + j, none⟩ = some (.int .i64 (B j))) :
    Calls Tryd.prog 89 #[.int .i64 f, .slice (some ⟨b, off, none⟩) n cap, .slice (some ⟨b2, off2, none⟩) n cap2] w (CopyP w n (fun j => RS (A j * B j) (P f))) := by
  have hp := P_bd h0 h8
  refine (pointwise_some f b off b2 off2 n cap cap2 (fun j => if j < n then A j else 0) (fun j => if j < n then B j else 0) w ht h0 h8 hn (fun j => ?_) (fun j => ?_) hlt hlt2 (fun j hj => by rw [hc j hj, if_pos hj]) (fun j hj => by rw [hc2 j hj, if_pos hj])).mono fun e w' h => ⟨h.1, own_congr h.2.1 rfl (fun j hj => by simp [hj]), h.2.2⟩
  · by_cases h : j < n
    · simp only [h, if_true]; exact hA j h
    · simp only [h, if_false]; omega
  · by_cases h : j < n
    · simp only [h, if_true]; exact hB j h
    · simp only [h, if_false]; omega
set_option maxRecDepth 100000 in
set_option maxHeartbeats 3200000 in
theorem through_u (f : Int) (h0 : 0 ≤ f) (h8 : f ≤ 8) (b g n : Nat) (pl pr : Option Addr) (X Y : Nat → Int) (aa : Option Addr) (cap : Nat) (w : World) (hT : TreeW f w n (some ⟨b, 0, none⟩) X n) (hN : NodeW w b f g n pl pr) (hO : Own w g (n + 1) (lf (vanL f X n))) (n1 : 1 ≤ n) (h40 : n ≤ 40) (ht : Tab w) (hd : DistinctS f X n) (hY : ∀ j, j < n → 0 ≤ Y j ∧ Y j < P f) (hs : Src w aa n Y) :
    Calls Tryd.prog 56 #[.pointer (some ⟨b, 0, none⟩), .slice aa n cap] w (OwnG w (interL f X Y n)) := by
  have hp := P_bd h0 h8
  obtain ⟨ba, off, rfl, hlt, hc⟩ : ∃ ba off, aa = some ⟨ba, off, none⟩ ∧ ba < w.heap.size ∧ ∀ j, j < n → w.cell? ⟨ba, off + j, none⟩ = some (.int .i64 (Y j)) := by
    rcases hs with h | h
    · omega
    · exact h
  have PW2 : Hid (∀ W, Below w.heap.size w W → Calls Tryd.prog 64 #[.pointer (some ⟨b, 0, none⟩)] W (fun e w' => ∃ g1, e = .returned (.slice (some ⟨g1, 0, none⟩) n n) ∧ W.heap.size ≤ g1 ∧ Own w' g1 n (fun i => mPower f (byF f X i n) (-1)) ∧ Below W.heap.size W w')) := Lib.hid fun W hb => by
    refine (weights_c f h0 h8 n b g n pl pr X W (hT.keep hb) (hN.keep hb hN.lt) (hO.keep hb) n1 h40 (ht.below hb) hd).mono fun e w' h => ?_
    obtain ⟨g1, h1, h2, h3, h4⟩ := h
    rw [wtX_len] at h1 h3
    exact ⟨g1, h1, h2, own_congr h3 rfl (fun j hj => by unfold wtX; rw [lf_tab, if_pos hj]), h4⟩
  have PT : Hid (∀ (g1 : Nat) W, Below w.heap.size w W → Own W g1 n (fun i => mPower f (byF f X i n) (-1)) → Calls Tryd.prog 89 #[.int .i64 f, .slice (some ⟨ba, off, none⟩) n cap, .slice (some ⟨g1, 0, none⟩) n n] W (fun e w' => ∃ g2, e = .returned (.slice (some ⟨g2, 0, none⟩) n n) ∧ W.heap.size ≤ g2 ∧ Own w' g2 n (fun j => RS (Y j * mPower f (byF f X j n) (-1)) (P f)) ∧ Below W.heap.size W w')) := Lib.hid fun g1 W hb ho => by
    refine (pointwise_u f ba off g1 0 n cap n Y _ W (ht.below hb) h0 h8 (by omega) hY (fun j hj => ?_) (Nat.lt_of_lt_of_le hlt hb.size) ho.lt (fun j hj => (hb.cell (p := ⟨ba, off + j, none⟩) hlt).trans (hc j hj)) (fun j hj => by rw [Nat.zero_add]; exact ho.cell hj)).mono fun e w' h => ?_
    · have hne := byF_ne h0 h8 hd hj
      have hb2 := byF_bd h0 h8 X j n
      exact inv_bd h0 h8 (by
        rcases Int.lt_or_eq_of_le hb2.1 with h | h
        · exact h
        · exact absurd (by rw [← h]; exact Int.zero_emod _) hne) hb2.2
    · obtain ⟨h1, h2, h3⟩ := h
      exact ⟨_, h1, Nat.le_refl _, h2, h3⟩
  have PC : Hid (∀ (g2 : Nat) W, Below w.heap.size w W → Own W g2 n (fun j => RS (Y j * mPower f (byF f X j n) (-1)) (P f)) → Calls Tryd.prog 88 #[.pointer (some ⟨b, 0, none⟩), .slice (some ⟨g2, 0, none⟩) n n] W (OwnG W (interL f X Y n))) := Lib.hid fun g2 W hb ho => by
    refine (comb_c f h0 h8 n _ X _ n _ n W (hT.keep hb) n1 h40 (Nat.le_refl _) (ht.below hb) (fun j _ => RS_bd (by omega)) ho.src).mono fun e w' h => ?_
    obtain ⟨c, h1, h2⟩ := h
    rwa [comb_inter h0 h8 hd hY h1] at h2
  have HF : Hid (∀ e W W', Below w.heap.size w W → OwnG W (interL f X Y n) e W' → OwnG w (interL f X Y n) e W') := Lib.hid fun e W W' hb h => h.up hb
  have b0 : Below w.heap.size w w.drew := (Below.refl _ _).drew
  have kk : Hid (∀ W, Below w.heap.size w W → W.cell? ⟨b, 0, none⟩ = some (.int .i64 f)) := Lib.hid fun W hb => (hN.keep hb hN.lt).1
  clear hT hN hO ht hd hY hs hc
  generalize interL f X Y n = V at *
  go_enter Tryd.func56, Tryd.ntmps56
  go_wp2_with fail
  have k0 := kk.out _ (Below.refl _ _)
  have k1 := kk.out _ b0
  go_region_held3 (fun W1 => W1.cell? ⟨b, 0, none⟩ = some (.int .i64 f))
    (first | exact k0 | exact k1 | exact k2 | exact k3 | exact k4 | go_keep)
    (first
      | (go_at_call 64; refine (PW2.out _ b0).mono ?_; rintro e w1 ⟨g1, rfl, hg1, o1, b1⟩; have b2 := below_up b0 b1 b0.size; have k2 := kk.out _ b2)
      | (go_at_call 89; refine (PT.out g1 _ b2 o1).mono ?_; rintro e w2 ⟨g2, rfl, hg2, o2, b3⟩; have b4 := below_up b2 b3 b2.size; have k3 := kk.out _ b4)
      | (go_at_call 88; refine (PC.out g2 _ b4 o2).mono ?_; intro e w3 h3; have HR := Lib.hid (HF.out _ _ _ b4 h3); obtain ⟨g3, rfl, hg3, o3, b5⟩ := h3; have k4 := kk.out _ (below_up b4 b5 b4.size)))
  clear k0 k1 k2 k3 k4 o1 o2 o3 PW2 PT PC HF kk b1 b3 b5
  go_wp2
  go_ret
  exact HR.out
end Go.Proofs.YtangofjpnhhfeabDoor
namespace Go.Proofs.YtangofjpnhhfeabDoor
open Go.RowKit
set_option maxRecDepth 100000 in
theorem index_some (b off n cap : Nat) (F : Nat → Int) (x : Int) (w : World) (hn : n ≤ 1048576) (hc : ∀ j, j < n → w.cell? ⟨b, off + j, none⟩ = some (.int .i64 (F j))) : Calls Tryd.prog 108 #[.slice (some ⟨b, off, none⟩) n cap, .int .i64 x] w fun e w' => ∃ v : Int, e = .returned (.int .i64 v) ∧ decide (0 ≤ v) = hasF F n x ∧ w = w' := by
  have HC := Lib.hid hc
  have HY : Hid (∀ j, j < n → x = F j → hasF F n x = true) := Lib.hid fun j h e => hasF_yes h e.symm
  have HN : Hid ((∀ j, j < n → F j ≠ x) → hasF F n x = false) := Lib.hid hasF_no
  clear hc
  generalize hasF F n x = R at *
  go_enter Tryd.func108, Tryd.ntmps108
  go_wp2_with fail
  go_loopw [8] (fun iv wr => ∃ i : Nat, iv = .int .i64 i ∧ i ≤ n ∧ Hid (∀ j, j < i → F j ≠ x) ∧ w = wr) (fun iv _ => n - (intOf iv).toNat)
  case atStart => exact ⟨0, rfl, Nat.zero_le _, Lib.hid fun j hj => by omega, rfl⟩
  case round =>
    obtain ⟨i, rfl, hi, HP, rfl⟩ := hrel
    by_cases h1 : i < n
    · have hd1 : decide ((i : Int) < n) = true := decide_eq_true (by omega)
      have c1 := HC.out i h1
      have hi2 : (i : Int) < n := by omega
      by_cases h2 : x = F i
      · have hd2 : (x == F i) = true := by rw [beq_iff_eq]; exact h2
        have HR := Lib.hid (HY.out i h1 h2)
        clear h2
        go_wp2
        go_ret
        exact ⟨i, rfl, by rw [HR.out]; simp, rfl⟩
      · have hd2 : (x == F i) = false := by rw [beq_eq_false_iff_ne]; exact h2
        have HP2 : Hid (∀ j, j < i + 1 → F j ≠ x) := Lib.hid fun j hj => by
          by_cases e : j < i
          · exact HP.out j e
          · obtain rfl : j = i := by omega
            exact fun e => h2 e.symm
        clear h2 HP
        go_wp2
        go_roundw
        case rel => exact ⟨i + 1, by go_num, by omega, HP2, trivial⟩
        case measure => simp [intOf]; omega
    · have hd1 : decide ((i : Int) < n) = false := decide_eq_false (by omega)
      obtain rfl : i = n := by omega
      have HR := Lib.hid (HN.out HP.out)
      clear HP
      go_wp2
      go_ret
      exact ⟨-1, rfl, by rw [HR.out]; rfl, rfl⟩
theorem index_none (a : Option Addr) (cap : Nat) (F : Nat → Int) (x : Int) (w : World) : Calls Tryd.prog 108 #[.slice a 0 cap, .int .i64 x] w fun e w' => ∃ v : Int, e = .returned (.int .i64 v) ∧ decide (0 ≤ v) = hasF F 0 x ∧ w = w' := by
  have HR : Hid (hasF F 0 x = false) := Lib.hid (hasF_no fun j hj => by omega)
  go_enter Tryd.func108, Tryd.ntmps108
  go_wp2
  refine wp_loop_rounds 1 ?_
  rw [rounds_succ]
  go_wp2
  go_ret
  exact ⟨-1, rfl, by rw [HR.out]; rfl, rfl⟩
theorem contains_c (a : Option Addr) (n cap : Nat) (F : Nat → Int) (x : Int) (w : World) (hn : n ≤ 1048576) (hs : Src w a n F) : Calls Tryd.prog 79 #[.slice a n cap, .int .i64 x] w (SameB w (hasF F n x)) := by
  have HI : Hid (Calls Tryd.prog 108 #[.slice a n cap, .int .i64 x] w fun e w' => ∃ v : Int, e = .returned (.int .i64 v) ∧ decide (0 ≤ v) = hasF F n x ∧ w = w') := Lib.hid (by
    rcases hs with rfl | ⟨b, off, rfl, hlt, hc⟩
    · exact index_none a cap F x w
    · exact index_some b off n cap F x w hn hc)
  clear hs
  generalize hasF F n x = R at *
  go_enter Tryd.func79, Tryd.ntmps79
  go_wp2_with fail
  refine HI.out.mono ?_
  rintro e w' ⟨v, rfl, hv, rfl⟩
  go_wp2
  go_ret
  exact ⟨rfl, rfl⟩
set_option maxRecDepth 100000 in
set_option maxHeartbeats 1600000 in
theorem iPointsOk_in (f : Int) (b off n cap : Nat) (F : Nat → Int) (w : World) (B : Bool) (h0 : 0 ≤ f) (h8 : f ≤ 8) (n1 : 1 ≤ n) (h40 : n ≤ 40) (hcap : n ≤ cap) (hlt : b < w.heap.size) (hc : ∀ j, j < n → w.cell? ⟨b, off + j, none⟩ = some (.int .i64 (F j)))
    (HA : Hid (Calls Tryd.prog 54 #[.int .i64 f, .slice (some ⟨b, off, none⟩) n cap] w (SameB w true))) (HN : Hid (∀ i, i < n → hasF F i (F i) = true → B = false)) (HY : Hid ((∀ i, i < n → hasF F i (F i) = false) → B = true)) :
    Calls Tryd.prog 53 #[.int .i64 f, .slice (some ⟨b, off, none⟩) n cap] w (SameB w B) := by
  have HC := Lib.hid hc
  have hd0 : decide ((n : Int) < 1) = false := decide_eq_false (by omega)
  have hd1 : decide ((40 : Int) < n) = false := decide_eq_false (by omega)
  clear hc
  go_enter Tryd.func53, Tryd.ntmps53
  go_wp2_with fail
  refine (known_yes f w h0 h8).mono ?_
  rintro e w' ⟨rfl, rfl⟩
  go_wp2_with fail
  refine HA.out.mono ?_
  rintro e w' ⟨rfl, rfl⟩
  go_wp2_with fail
  go_loop [30] (fun iv => ∃ i : Nat, iv = .int .i64 i ∧ i ≤ n ∧ Hid (∀ k, k < i → hasF F k (F k) = false)) (fun iv => n - (intOf iv).toNat)
  case atStart => exact ⟨0, rfl, Nat.zero_le _, Lib.hid fun k hk => by omega⟩
  case round =>
    obtain ⟨i, rfl, hi, HP⟩ := hrel
    by_cases h1 : i < n
    · have hd2 : decide ((i : Int) < n) = true := decide_eq_true (by omega)
      have c1 := HC.out i h1
      have hi0 : (0 : Int) ≤ (i : Int) := by omega
      have hi2 : (i : Int) < n := by omega
      have hi3 : (i : Int) ≤ cap := by omega
      have HH := Lib.hid (contains_c (some ⟨b, off, none⟩) i cap F (F i) w (by omega) (.inr ⟨b, off, rfl, hlt, fun j hj => HC.out j (by omega)⟩))
      cases hB : hasF F i (F i)
      · rw [hB] at HH
        have HP2 : Hid (∀ k, k < i + 1 → hasF F k (F k) = false) := Lib.hid fun k hk => by
          by_cases e : k < i
          · exact HP.out k e
          · obtain rfl : k = i := by omega
            exact hB
        clear hB HP
        go_wp2_with fail
        refine HH.out.mono ?_
        rintro e w' ⟨rfl, rfl⟩
        go_wp2
        go_round
        case rel => exact ⟨i + 1, by go_num, by omega, HP2⟩
        case measure => simp [intOf]; omega
      · rw [hB] at HH
        have HR := Lib.hid (HN.out i h1 hB)
        clear hB HP
        go_wp2_with fail
        refine HH.out.mono ?_
        rintro e w' ⟨rfl, rfl⟩
        go_wp2
        go_ret
        exact ⟨by rw [HR.out]; rfl, rfl⟩
    · have hd2 : decide ((i : Int) < n) = false := decide_eq_false (by omega)
      obtain rfl : i = n := by omega
      have HR := Lib.hid (HY.out HP.out)
      clear HP
      go_wp2
      go_ret
      exact ⟨by rw [HR.out]; rfl, rfl⟩
set_option maxRecDepth 100000 in
theorem iPointsOk (f : Int) (a : Option Addr) (l : List Int) (cap : Nat) (w : World) (hn : l.length ≤ 1048576) (hs : SrcC w a l.length cap (lf l)) (ht : Tab w) : Calls Tryd.prog 53 #[.int .i64 f, .slice a l.length cap] w (SameB w (mPointsOk f l)) := by
  by_cases hf : 0 ≤ f ∧ f ≤ 8
  · obtain ⟨h0, h8⟩ := hf
    by_cases h1 : 1 ≤ l.length
    · by_cases h40 : l.length ≤ 40
      · by_cases hall : AllIn f l
        · have H1 := Lib.hid (hasAll_c f a l cap w ht h0 h8 hn hs.src true (by simp [hall]))
          obtain ⟨b, off, rfl, hlt, hc⟩ : ∃ b off, a = some ⟨b, off, none⟩ ∧ b < w.heap.size ∧ ∀ j, j < l.length → w.cell? ⟨b, off + j, none⟩ = some (.int .i64 (lf l j)) := by
            rcases hs.2 with h | h
            · omega
            · exact h
          refine iPointsOk_in f b off l.length cap (lf l) w (mPointsOk f l) h0 h8 h1 h40 hs.1 hlt hc H1 (Lib.hid fun i hi he => pts_not.2 fun hp => ?_) (Lib.hid fun h => pts_iff.2 ⟨⟨h0, h8⟩, ⟨h1, h40⟩, hall, fun i j hij hj e => ?_⟩)
          · unfold hasF at he
            simp only [decide_eq_true_eq] at he
            obtain ⟨j, hj, e⟩ := he
            exact hp.2.2.2 j i hj hi e
          · have := h j hj
            rw [hasF_yes hij e] at this
            cases this
        · have H1 := Lib.hid (hasAll_c f a l cap w ht h0 h8 hn hs.src false (by simp [hall]))
          have HB : Hid (mPointsOk f l = false) := Lib.hid (pts_not.2 fun h => hall h.2.2.1)
          have hd0 : decide ((l.length : Int) < 1) = false := decide_eq_false (by omega)
          have hd1 : decide ((40 : Int) < l.length) = false := decide_eq_false (by omega)
          rw [HB.out]
          clear hs hall HB h1 h40
          go_enter Tryd.func53, Tryd.ntmps53
          go_wp2_with fail
          refine (known_yes f w h0 h8).mono ?_
          rintro e w' ⟨rfl, rfl⟩
          go_wp2_with fail
          refine H1.out.mono ?_
          rintro e w' ⟨rfl, rfl⟩
          go_wp2
          go_ret
          exact ⟨rfl, rfl⟩
      · rw [pts_not.2 fun h => h40 h.2.1.2]
        have hd0 : decide ((l.length : Int) < 1) = false := decide_eq_false (by omega)
        have hd1 : decide ((40 : Int) < l.length) = true := decide_eq_true (by omega)
        clear hs h1 h40
        go_enter Tryd.func53, Tryd.ntmps53
        go_wp2_with fail
        refine (known_yes f w h0 h8).mono ?_
        rintro e w' ⟨rfl, rfl⟩
        go_wp2
        go_ret
        exact ⟨rfl, rfl⟩
    · rw [pts_not.2 fun h => h1 h.2.1.1]
      obtain ⟨N, hN⟩ : ∃ N, l.length = N := ⟨_, rfl⟩
      rw [hN]
      have hd0 : decide ((N : Int) < 1) = true := decide_eq_true (by omega)
      clear hs h1 hn hN
      go_enter Tryd.func53, Tryd.ntmps53
      go_wp2_with fail
      refine (known_yes f w h0 h8).mono ?_
      rintro e w' ⟨rfl, rfl⟩
      go_wp2
      go_ret
      exact ⟨rfl, rfl⟩
  · rw [pts_not.2 fun h => hf h.1]
    clear hs
    go_enter Tryd.func53, Tryd.ntmps53
    go_wp2_with fail
    refine (known_no f w (by omega)).mono ?_
    rintro e w' ⟨rfl, rfl⟩
    go_wp2
    go_ret
    exact ⟨rfl, rfl⟩
/-- A list in memory of its own, in a row that may have room. -/
def OwnM (w : World) (B : Nat) (a : Option Addr) (l : List Int) (cap : Nat) : Prop :=
  (a = none ∧ cap = 0 ∧ l.length = 0) ∨ ∃ g, a = some ⟨g, 0, none⟩ ∧ B ≤ g ∧ OwnV w g l.length cap (lf l)
theorem OwnM.src {w : World} {B : Nat} {a : Option Addr} {l : List Int} {cap : Nat} (h : OwnM w B a l cap) : Src w a l.length (lf l) := by
  rcases h with ⟨_, _, h⟩ | ⟨g, rfl, _, h⟩
  · exact .inl h
  · exact h.src
theorem OwnM.srcC {w : World} {B : Nat} {a : Option Addr} {l : List Int} {cap : Nat} (h : OwnM w B a l cap) : SrcC w a l.length cap (lf l) := by
  refine ⟨?_, h.src⟩
  rcases h with ⟨_, h1, h⟩ | ⟨g, rfl, _, _, _, h, _⟩
  · omega
  · exact h
theorem OwnM.keep {w w' : World} {B : Nat} {a : Option Addr} {l : List Int} {cap : Nat} (h : OwnM w B a l cap) (hb : Below w.heap.size w w') : OwnM w' B a l cap :=
  h.imp id fun ⟨g, h1, h2, h3⟩ => ⟨g, h1, h2, h3.keep hb⟩
theorem OwnM.low {w : World} {B B' : Nat} {a : Option Addr} {l : List Int} {cap : Nat} (h : OwnM w B a l cap) (hB : B' ≤ B) : OwnM w B' a l cap :=
  h.imp id fun ⟨g, h1, h2, h3⟩ => ⟨g, h1, Nat.le_trans hB h2, h3⟩
theorem own_to_v {w : World} {g n : Nat} {F : Nat → Int} (h : Own w g n F) : OwnV w g n n F := ⟨_, h, Nat.le_refl _, fun _ _ => rfl⟩
theorem OwnA.m {w : World} {B : Nat} {a : Option Addr} {l : List Int} {cap : Nat} (h : OwnA w B a l cap) : OwnM w B a l cap := by
  rcases h with h | ⟨g, rfl, rfl, hB, h⟩
  · exact .inl h
  · exact .inr ⟨g, rfl, hB, own_to_v h⟩
theorem v_of_block {w w' : World} {g n cap : Nat} {F : Nat → Int} (h : OwnV w g n cap F) (hb : w'.heap[g]? = w.heap[g]?) : OwnV w' g n cap F := by
  obtain ⟨V, h1, h2, h3⟩ := h
  exact ⟨V, World.rowIs.of_block h1 hb, h2, h3⟩
theorem OwnM.after {w w' : World} {B cap : Nat} {a a2 : Option Addr} {l : List Int} (h : OwnM w B a2 l cap) (hg : Grow w w' a) (hl : Lies a B) : OwnM w' B a2 l cap := by
  rcases hg with rfl | ⟨g, rfl, hg⟩
  · exact h
  · have := hl _ rfl
    refine h.imp id fun ⟨g2, h1, h2, h3⟩ => ⟨g2, h1, h2, v_of_block h3 (hg.block g2 h3.lt (fun e => ?_))⟩
    injection e with e
    have : g < B := this
    omega
theorem Grow.belowM {u w w' : World} {B0 B cap : Nat} {a : Option Addr} {l : List Int} (hg : Grow w w' a) (ho : OwnM w B a l cap) (hB : B0 ≤ B) (hb : Below B0 u w) (hs : B0 ≤ w.heap.size) : Below B0 u w' := by
  rcases hg with rfl | ⟨g, rfl, hg⟩
  · exact hb
  · rcases ho with ⟨h, _⟩ | ⟨g2, h1, h2, h3⟩
    · cases h
    · cases h1
      exact hb.grown hg hs (fun k hk => by injection hk with hk; omega)
def OwnLM (w : World) (l : List Int) (e : Ending) (w' : World) : Prop := ∃ a cap, e = .returned (.slice a l.length cap) ∧ OwnM w' w.heap.size a l cap ∧ Below w.heap.size w w'
theorem OwnL.m {w w' : World} {l : List Int} {e : Ending} (h : OwnL w l e w') : OwnLM w l e w' := by
  obtain ⟨a, cap, h1, h2, h3⟩ := h
  exact ⟨a, cap, h1, h2.m, h3⟩
theorem OwnsL.m {w w' : World} {l : List Int} {e : Ending} (h : OwnsL w l e w') : OwnLM w l e w' := by
  obtain ⟨v, rfl, ho, hb⟩ := h
  by_cases hz : l.length = 0
  · rcases ho.2 with ⟨rfl, _⟩ | ⟨g, cap, cur, rfl, hg, hh, hc, hm, hs, _⟩
    · exact ⟨none, 0, by rw [hz], .inl ⟨rfl, rfl, hz⟩, hb⟩
    · refine ⟨some ⟨g, 0, none⟩, cap, rfl, .inr ⟨g, rfl, hg, fun j => (cur[j]?).getD .nilIface, ⟨cur, hh, by omega, fun j hj => ?_⟩, by omega, fun j hj => by omega⟩, hb⟩
      have : j < cur.size := by omega
      simp [this]
  · obtain ⟨g, cap, rfl, hg, hv⟩ := OwnV.of_owns ho hz
    exact ⟨some ⟨g, 0, none⟩, cap, rfl, .inr ⟨g, rfl, hg, hv⟩, hb⟩
theorem nil_m {w w' : World} {l : List Int} (hl : l = []) (hb : Below w.heap.size w w') : OwnLM w l (.returned (.slice none 0 0)) w' := by
  subst hl
  exact ⟨none, 0, rfl, .inl ⟨rfl, rfl, rfl⟩, hb⟩
set_option maxHeartbeats 800000 in
theorem mark_v (g n cap : Nat) (F : Nat → Int) (k : Int) (w : World) (hn : n ≤ 1048576) (k0 : 0 ≤ k) (k1 : k ≤ 1000000000) (ho : OwnV w g n cap F) : Calls Tryd.prog 14 #[.slice (some ⟨g, 0, none⟩) n cap, .int .i64 k] w fun e w' => e = .returned (.int .i64 (k + n)) ∧ OwnV w' g n cap (fun j => k + j) ∧ w.grownBy w' (some g) := by
  go_enter Tryd.func14, Tryd.ntmps14
  go_wp2_with fail
  go_loopw [1, 5] (fun u i wr => ∃ j : Nat, i = .int .i64 j ∧ u = .int .i64 (k + j) ∧ j ≤ n ∧ OwnV wr g n cap (fun x => if x < j then k + x else F x) ∧ w.grownBy wr (some g)) (fun _ i _ => n - (intOf i).toNat)
  case atStart => exact ⟨0, rfl, by simp, Nat.zero_le _, ho.congr (fun x _ => by simp), World.grownBy.refl _ _⟩
  case round =>
    obtain ⟨j, rfl, rfl, hj, ho2, hg⟩ := hrel
    by_cases h1 : j < n
    · have c2 := ho2.cell h1
      have c3 := ho2.frozen j
      have HS : Hid (OwnV (wr.setCell ⟨g, j, none⟩ (.int .i64 (k + j))) g n cap (fun x => if x < j + 1 then k + x else F x)) := Lib.hid (by
        refine (ho2.set (s := j) (x := k + j)).congr fun x _ => ?_
        unfold upd
        by_cases hx : x = j
        · subst hx; simp
        · by_cases hx2 : x < j
          · simp [hx, hx2, show x < j + 1 by omega]
          · simp [hx, hx2, show ¬ x < j + 1 by omega])
      have HG := Lib.hid (grown_set hg j (.int .i64 (k + j)))
      clear ho2 hg
      go_wp2
      go_roundw
      case rel => exact ⟨j + 1, by go_num, vint (by omega), by omega, HS.out, HG.out⟩
      case measure => simp [intOf]; omega
    · have hd : decide (j < n) = false := by simpa using h1
      obtain rfl : j = n := by omega
      have HS := Lib.hid ho2
      have HG := Lib.hid hg
      clear ho2 hg
      go_wp2
      go_ret
      exact ⟨rfl, HS.out.congr (fun x hx => by simp [hx]), HG.out⟩
set_option maxHeartbeats 800000 in
theorem held_v (g n cap : Nat) (k : Int) (w : World) (hn : n ≤ 1048576) (k0 : 0 ≤ k) (k1 : k ≤ 1000000000) (ho : OwnV w g n cap (fun j => k + j)) : Calls Tryd.prog 15 #[.slice (some ⟨g, 0, none⟩) n cap, .int .i64 k] w fun e w' => e = .returned (.int .i64 (k + n)) ∧ w = w' := by
  go_enter Tryd.func15, Tryd.ntmps15
  go_wp2_with fail
  go_loop [1, 5] (fun u i => ∃ j : Nat, i = .int .i64 j ∧ u = .int .i64 (k + j) ∧ j ≤ n) (fun _ i => n - (intOf i).toNat)
  case atStart => exact ⟨0, rfl, by simp, Nat.zero_le _⟩
  case round =>
    obtain ⟨j, rfl, rfl, hj⟩ := hrel
    by_cases h1 : j < n
    · have c2 := ho.cell h1
      have hd : ((k + j : Int) != k + j) = false := by simp
      go_wp2
      go_round
      case rel => exact ⟨j + 1, by go_num, vint (by omega), by omega⟩
      case measure => simp [intOf]; omega
    · have hd : decide (j < n) = false := by simpa using h1
      obtain rfl : j = n := by omega
      go_wp2
      go_ret
      exact ⟨rfl, rfl⟩
def MarkM (w : World) (B : Nat) (a : Option Addr) (n cap : Nat) (k : Int) (e : Ending) (w' : World) : Prop := e = .returned (.int .i64 (k + n)) ∧ OwnM w' B a (marks k n) cap ∧ Grow w w' a
theorem mark_m (B : Nat) (a : Option Addr) (l : List Int) (cap : Nat) (k : Int) (w : World) (hn : l.length ≤ 1048576) (k0 : 0 ≤ k) (k1 : k ≤ 1000000000) (ho : OwnM w B a l cap) : Calls Tryd.prog 14 #[.slice a l.length cap, .int .i64 k] w (MarkM w B a l.length cap k) := by
  rcases ho with ⟨rfl, rfl, hz⟩ | ⟨g, rfl, hB, h⟩
  · rw [hz]
    refine (mark_nil k w).mono ?_
    rintro e w' ⟨rfl, rfl⟩
    exact ⟨by simp, .inl ⟨rfl, rfl, by rw [marks_len]⟩, .inl rfl⟩
  · refine (mark_v g l.length cap (lf l) k w hn k0 k1 h).mono ?_
    rintro e w' ⟨rfl, h2, h3⟩
    refine ⟨rfl, .inr ⟨g, rfl, hB, ?_⟩, .inr ⟨g, rfl, h3⟩⟩
    rw [marks_len]
    exact h2.congr fun j hj => by unfold marks; rw [lf_tab, if_pos hj]
theorem held_m (B : Nat) (a : Option Addr) (n cap : Nat) (k : Int) (w : World) (hn : n ≤ 1048576) (k0 : 0 ≤ k) (k1 : k ≤ 1000000000) (ho : OwnM w B a (marks k n) cap) : Calls Tryd.prog 15 #[.slice a n cap, .int .i64 k] w fun e w' => e = .returned (.int .i64 (k + n)) ∧ w = w' := by
  rcases ho with ⟨rfl, rfl, hz⟩ | ⟨g, rfl, hB, h⟩
  · rw [marks_len] at hz
    rw [hz]
    refine (held_nil k w).mono ?_
    rintro e w' ⟨rfl, rfl⟩
    exact ⟨by simp, rfl⟩
  · rw [marks_len] at h
    exact held_v g n cap k w hn k0 k1 (h.congr (fun j hj => by unfold marks; rw [lf_tab, if_pos hj]))
end Go.Proofs.YtangofjpnhhfeabDoor
namespace Go.Proofs.YtangofjpnhhfeabDoor
open Go.RowKit
theorem tree_pts (f : Int) (a : Option Addr) (l : List Int) (cap : Nat) (w : World) (hs : SrcC w a l.length cap (lf l)) (ht : Tab w) (h : PtsOk f l) : Calls Tryd.prog 55 #[.int .i64 f, .slice a l.length cap] w (TreeR f l.length (lf l) w) :=
  tree_c f h.1.1 h.1.2 l.length a cap (lf l) w ht h.2.1.1 h.2.1.2 hs.1 h.2.2.1 hs.2
theorem tree_nil (f : Int) (a : Option Addr) (cap : Nat) (w : World) : Calls Tryd.prog 55 #[.int .i64 f, .slice a 0 cap] w fun e w' => e = .returned (.pointer none) ∧ w = w' := by
  go_enter Tryd.func55, Tryd.ntmps55
  go_wp2
  go_ret
  exact ⟨rfl, rfl⟩
set_option maxRecDepth 100000 in
theorem iVanish (f : Int) (a : Option Addr) (l : List Int) (cap : Nat) (w : World) (hn : l.length ≤ 1048576) (hs : SrcC w a l.length cap (lf l)) (ht : Tab w) : Calls Tryd.prog 32 #[.int .i64 f, .slice a l.length cap] w (OwnL w (mVanish f l)) := by
  have HP := Lib.hid (iPointsOk f a l cap w hn hs ht)
  by_cases h : PtsOk f l
  · have HT := Lib.hid (tree_pts f a l cap w hs ht h)
    rw [pts_iff.2 h] at HP
    have hv := vanL_len h.1.1 h.1.2 (lf l) l.length
    have HF : Hid (∀ (g : Nat) (w' : World), w.heap.size ≤ g → Own w' g (l.length + 1) (lf (vanL f (lf l) l.length)) → Below w.heap.size w w' → OwnL w (mVanish f l) (.returned (.slice (some ⟨g, 0, none⟩) (l.length + 1) (l.length + 1))) w') := Lib.hid fun g w' hg ho hb => by
      unfold mVanish
      rw [if_pos h]
      rw [← hv] at ho ⊢
      exact OwnG.own ⟨g, rfl, hg, ho, hb⟩
    clear hs ht h hv
    generalize mVanish f l = R at *
    go_enter Tryd.func32, Tryd.ntmps32
    go_wp2_with fail
    refine HP.out.mono ?_
    rintro e w' ⟨rfl, rfl⟩
    go_wp2_with fail
    refine HT.out.mono ?_
    rintro e w1 ⟨b, g, pl, pr, rfl, hg, hN, hO, _, hb⟩
    have c1 := hN.2.1
    have HR := Lib.hid (HF.out g w1 hg hO hb)
    clear hN hO hb
    go_wp2
    go_ret
    exact HR.out
  · rw [pts_not.2 h] at HP
    have HR : Hid (OwnL w (mVanish f l) (.returned (.slice none 0 0)) w) := Lib.hid (by
      unfold mVanish
      rw [if_neg h]
      exact ⟨none, 0, rfl, OwnA.nil rfl, Below.refl _ _⟩)
    clear hs ht h
    go_enter Tryd.func32, Tryd.ntmps32
    go_wp2_with fail
    refine HP.out.mono ?_
    rintro e w' ⟨rfl, rfl⟩
    go_wp2
    go_ret
    exact HR.out
set_option maxRecDepth 100000 in
theorem iWeights (f : Int) (a : Option Addr) (l : List Int) (cap : Nat) (w : World) (hn : l.length ≤ 1048576) (hs : SrcC w a l.length cap (lf l)) (ht : Tab w) : Calls Tryd.prog 33 #[.int .i64 f, .slice a l.length cap] w (OwnL w (mWeights f l)) := by
  have HP := Lib.hid (iPointsOk f a l cap w hn hs ht)
  by_cases h : PtsOk f l
  · have HT := Lib.hid (tree_pts f a l cap w hs ht h)
    rw [pts_iff.2 h] at HP
    have HW : Hid (∀ (b g : Nat) (pl pr : Option Addr) (w1 : World), NodeW w1 b f g l.length pl pr → Own w1 g (l.length + 1) (lf (vanL f (lf l) l.length)) → TreeW f w1 l.length (some ⟨b, 0, none⟩) (lf l) l.length → Below w.heap.size w w1 → Calls Tryd.prog 64 #[.pointer (some ⟨b, 0, none⟩)] w1 (OwnL w (mWeights f l))) := Lib.hid fun b g pl pr w1 hN hO hT hb => by
      refine (weights_c f h.1.1 h.1.2 l.length b g l.length pl pr (lf l) w1 hT hN hO h.2.1.1 h.2.1.2 (ht.below hb) h.dist).mono fun e w' h2 => ?_
      unfold mWeights
      rw [if_pos h]
      exact (h2.up hb).own
    clear hs ht h
    generalize mWeights f l = R at *
    go_enter Tryd.func33, Tryd.ntmps33
    go_wp2_with fail
    refine HP.out.mono ?_
    rintro e w' ⟨rfl, rfl⟩
    go_wp2_with fail
    refine HT.out.mono ?_
    rintro e w1 ⟨b, g, pl, pr, rfl, hg, hN, hO, hT, hb⟩
    have HW2 := Lib.hid (HW.out b g pl pr w1 hN hO hT hb)
    clear hN hO hb hT
    go_wp2_with fail
    refine HW2.out.mono ?_
    intro e w2 h2
    have HR := Lib.hid h2
    obtain ⟨a2, cap2, rfl, _⟩ := h2
    go_wp2
    go_ret
    exact HR.out
  · rw [pts_not.2 h] at HP
    have HR : Hid (OwnL w (mWeights f l) (.returned (.slice none 0 0)) w) := Lib.hid (by
      unfold mWeights
      rw [if_neg h]
      exact ⟨none, 0, rfl, OwnA.nil rfl, Below.refl _ _⟩)
    clear hs ht h
    go_enter Tryd.func33, Tryd.ntmps33
    go_wp2_with fail
    refine HP.out.mono ?_
    rintro e w' ⟨rfl, rfl⟩
    go_wp2
    go_ret
    exact HR.out
set_option maxRecDepth 100000 in
theorem iEvalMany (f : Int) (a : Option Addr) (l : List Int) (cap : Nat) (a2 : Option Addr) (xs : List Int) (cap2 : Nat) (w : World) (hn : l.length ≤ 1048576) (hn2 : xs.length ≤ 1048576) (hs : SrcC w a l.length cap (lf l)) (hs2 : SrcC w a2 xs.length cap2 (lf xs)) (ht : Tab w) : Calls Tryd.prog 26 #[.int .i64 f, .slice a l.length cap, .slice a2 xs.length cap2] w (OwnLM w (mEvalMany f l xs)) := by
  have HP := Lib.hid (iPolyOk f a l cap w hn hs.src ht)
  by_cases h1 : PolOk f l
  · rw [pok_iff.2 h1] at HP
    by_cases h2 : xs.length ≤ 40
    · have hd : decide ((40 : Int) < xs.length) = false := decide_eq_false (by omega)
      by_cases h3 : ElsOk f xs
      · have HA := Lib.hid (hasAll_c f a2 xs cap2 w ht h1.1.1 h1.1.2 hn2 hs2.src true (by simp; exact h3))
        by_cases hz : xs.length = 0
        · have HR : Hid (OwnLM w (mEvalMany f l xs) (.returned (.slice none 0 0)) w) := Lib.hid (nil_m (by
            unfold mEvalMany manyL
            split
            · rw [hz]; rfl
            · rfl) (Below.refl _ _))
          rw [hz] at HA hd ⊢
          clear hs hs2 ht h1 h3 hz h2 hn2
          go_enter Tryd.func26, Tryd.ntmps26
          go_wp2_with fail
          refine HP.out.mono ?_
          rintro e w' ⟨rfl, rfl⟩
          go_wp2_with fail
          refine HA.out.mono ?_
          rintro e w' ⟨rfl, rfl⟩
          go_wp2_with fail
          refine (tree_nil f a2 cap2 w).mono ?_
          rintro e w' ⟨rfl, rfl⟩
          go_wp2_with fail
          refine (values_nil _ w).mono ?_
          rintro e w' ⟨rfl, rfl⟩
          go_wp2
          go_ret
          exact HR.out
        · have HT := Lib.hid (tree_c f h1.1.1 h1.1.2 xs.length a2 cap2 (lf xs) w ht (by omega) h2 hs2.1 h3 hs2.2)
          have HV : Hid (∀ (b : Nat) (w1 : World), TreeW f w1 xs.length (some ⟨b, 0, none⟩) (lf xs) xs.length → Below w.heap.size w w1 → Calls Tryd.prog 58 #[.pointer (some ⟨b, 0, none⟩), .slice a l.length cap] w1 (OwnLM w (mEvalMany f l xs))) := Lib.hid fun b w1 hT hb => by
            refine (values_c f h1.1.1 h1.1.2 xs.length _ (lf xs) xs.length a l cap w1 hT h2 (ht.below hb) h1.2.2 (by have := h1.2.1; omega) (hs.src.keep hb)).mono fun e w' h4 => ?_
            have h5 := (h4.up hb hb.size).m
            unfold mEvalMany
            rw [if_pos ⟨h1, h2, h3⟩]
            exact h5
          clear hs hs2 ht h1 h3 hz
          generalize mEvalMany f l xs = R at *
          go_enter Tryd.func26, Tryd.ntmps26
          go_wp2_with fail
          refine HP.out.mono ?_
          rintro e w' ⟨rfl, rfl⟩
          go_wp2_with fail
          refine HA.out.mono ?_
          rintro e w' ⟨rfl, rfl⟩
          go_wp2_with fail
          refine HT.out.mono ?_
          rintro e w1 ⟨b, g, pl, pr, rfl, hg, hN, hO, hT, hb⟩
          have HV2 := Lib.hid (HV.out b w1 hT hb)
          clear hN hO hb hT
          go_wp2_with fail
          refine HV2.out.mono ?_
          intro e w2 h2
          have HR := Lib.hid h2
          obtain ⟨a2, cap2, rfl, _⟩ := h2
          go_wp2
          go_ret
          exact HR.out
      · have HA := Lib.hid (hasAll_c f a2 xs cap2 w ht h1.1.1 h1.1.2 hn2 hs2.src false (by simp; exact h3))
        have HR : Hid (OwnLM w (mEvalMany f l xs) (.returned (.slice none 0 0)) w) := Lib.hid (nil_m (by unfold mEvalMany; rw [if_neg fun h => h3 h.2.2]) (Below.refl _ _))
        clear hs hs2 ht h1 h3
        go_enter Tryd.func26, Tryd.ntmps26
        go_wp2_with fail
        refine HP.out.mono ?_
        rintro e w' ⟨rfl, rfl⟩
        go_wp2_with fail
        refine HA.out.mono ?_
        rintro e w' ⟨rfl, rfl⟩
        go_wp2
        go_ret
        exact HR.out
    · have hd : decide ((40 : Int) < xs.length) = true := decide_eq_true (by omega)
      have HR : Hid (OwnLM w (mEvalMany f l xs) (.returned (.slice none 0 0)) w) := Lib.hid (nil_m (by unfold mEvalMany; rw [if_neg fun h => h2 h.2.1]) (Below.refl _ _))
      clear hs hs2 ht h1
      go_enter Tryd.func26, Tryd.ntmps26
      go_wp2_with fail
      refine HP.out.mono ?_
      rintro e w' ⟨rfl, rfl⟩
      go_wp2
      go_ret
      exact HR.out
  · rw [pok_not.2 h1] at HP
    have HR : Hid (OwnLM w (mEvalMany f l xs) (.returned (.slice none 0 0)) w) := Lib.hid (nil_m (by unfold mEvalMany; rw [if_neg fun h => h1 h.1]) (Below.refl _ _))
    clear hs hs2 ht h1
    go_enter Tryd.func26, Tryd.ntmps26
    go_wp2_with fail
    refine HP.out.mono ?_
    rintro e w' ⟨rfl, rfl⟩
    go_wp2
    go_ret
    exact HR.out
set_option maxRecDepth 100000 in
theorem iInterpolate (f : Int) (a : Option Addr) (l : List Int) (cap : Nat) (a2 : Option Addr) (m : List Int) (cap2 : Nat) (w : World) (hn : l.length ≤ 1048576) (hn2 : m.length ≤ 1048576) (hs : SrcC w a l.length cap (lf l)) (hs2 : SrcC w a2 m.length cap2 (lf m)) (ht : Tab w) : Calls Tryd.prog 23 #[.int .i64 f, .slice a l.length cap, .slice a2 m.length cap2] w (OwnLB w (mInterpolate0 f l m) (mInterpolate1 f l m)) := by
  have HP := Lib.hid (iPointsOk f a l cap w hn hs ht)
  have HO : ¬ InterOk f l m → Hid (OwnLB w (mInterpolate0 f l m) (mInterpolate1 f l m) (.returned (.tuple #[.slice none 0 0, .bool false])) w) := fun h => Lib.hid (NilB.own (by unfold mInterpolate0; rw [if_neg h]) (by unfold mInterpolate1; simp [h]) ⟨rfl, Below.refl _ _⟩)
  by_cases h1 : PtsOk f l
  · rw [pts_iff.2 h1] at HP
    by_cases h2 : m.length = l.length
    · have e2 : ((m.length : Int) != l.length) = false := by simp [h2]
      by_cases h3 : ElsOk f m
      · have HA := Lib.hid (hasAll_c f a2 m cap2 w ht h1.1.1 h1.1.2 hn2 hs2.src true (by simp; exact h3))
        have HT := Lib.hid (tree_pts f a l cap w hs ht h1)
        have HV : Hid (∀ (b g : Nat) (pl pr : Option Addr) (w1 : World), NodeW w1 b f g l.length pl pr → Own w1 g (l.length + 1) (lf (vanL f (lf l) l.length)) → TreeW f w1 l.length (some ⟨b, 0, none⟩) (lf l) l.length → Below w.heap.size w w1 → Calls Tryd.prog 56 #[.pointer (some ⟨b, 0, none⟩), .slice a2 m.length cap2] w1 (OwnG w (interL f (lf l) (lf m) l.length))) := Lib.hid fun b g pl pr w1 hN hO hT hb => by
          have := through_u f h1.1.1 h1.1.2 b g l.length pl pr (lf l) (lf m) a2 cap2 w1 hT hN hO h1.2.1.1 h1.2.1.2 (ht.below hb) h1.dist (fun j hj => h3 j (by rw [h2]; exact hj)) (by rw [← h2]; exact hs2.src.keep hb)
          rw [← h2] at this ⊢
          exact this.mono fun e w' h4 => h4.up hb
        have HR : Hid (∀ (g : Nat) (w' : World), w.heap.size ≤ g → Own w' g (interL f (lf l) (lf m) l.length).length (lf (interL f (lf l) (lf m) l.length)) → Below w.heap.size w w' → OwnLB w (mInterpolate0 f l m) (mInterpolate1 f l m) (.returned (.tuple #[.slice (some ⟨g, 0, none⟩) (interL f (lf l) (lf m) l.length).length (interL f (lf l) (lf m) l.length).length, .bool true])) w') := Lib.hid fun g w' hg ho hb => by
          have ho0 : InterOk f l m := ⟨h1, h2, h3⟩
          rw [show mInterpolate0 f l m = interL f (lf l) (lf m) l.length by unfold mInterpolate0; rw [if_pos ho0], show mInterpolate1 f l m = true by unfold mInterpolate1; simp [ho0]]
          exact OwnG.finishB hg ho hb
        have e3 : decide (m.length = l.length) = true := decide_eq_true h2
        clear hs hs2 ht h1 h3 HO h2
        generalize interL f (lf l) (lf m) l.length = V at *
        generalize m.length = M at *
        go_enter Tryd.func23, Tryd.ntmps23
        go_wp2_with fail
        refine HP.out.mono ?_
        rintro e w' ⟨rfl, rfl⟩
        go_wp2_with fail
        refine HA.out.mono ?_
        rintro e w' ⟨rfl, rfl⟩
        go_wp2_with fail
        refine HT.out.mono ?_
        rintro e w1 ⟨b, g, pl, pr, rfl, hg, hN, hO, hT, hb⟩
        have HV2 := Lib.hid (HV.out b g pl pr w1 hN hO hT hb)
        clear hN hO hb hT
        go_wp2_with fail
        refine HV2.out.mono ?_
        rintro e w2 ⟨g2, rfl, hg2, o2, b2⟩
        have HR2 := Lib.hid (HR.out g2 w2 hg2 o2 b2)
        clear o2 b2
        go_wp2
        go_ret2
        exact HR2.out
      · have HA := Lib.hid (hasAll_c f a2 m cap2 w ht h1.1.1 h1.1.2 hn2 hs2.src false (by simp; exact h3))
        have HR := HO fun h => h3 h.2.2
        have e3 : decide (m.length = l.length) = true := decide_eq_true h2
        clear hs hs2 ht h1 h3 HO h2
        generalize m.length = M at *
        go_enter Tryd.func23, Tryd.ntmps23
        go_wp2_with fail
        refine HP.out.mono ?_
        rintro e w' ⟨rfl, rfl⟩
        go_wp2_with fail
        refine HA.out.mono ?_
        rintro e w' ⟨rfl, rfl⟩
        go_wp2
        go_ret2
        exact HR.out
    · have e2 : ((m.length : Int) != l.length) = true := by simp; omega
      have HR := HO fun h => h2 h.2.1
      clear hs hs2 ht h1 HO h2
      generalize m.length = M at *
      go_enter Tryd.func23, Tryd.ntmps23
      go_wp2_with fail
      refine HP.out.mono ?_
      rintro e w' ⟨rfl, rfl⟩
      go_wp2
      go_ret2
      exact HR.out
  · rw [pts_not.2 h1] at HP
    have HR := HO fun h => h1 h.1
    clear hs hs2 ht h1 HO
    go_enter Tryd.func23, Tryd.ntmps23
    go_wp2_with fail
    refine HP.out.mono ?_
    rintro e w' ⟨rfl, rfl⟩
    go_wp2
    go_ret2
    exact HR.out
end Go.Proofs.YtangofjpnhhfeabDoor
namespace Go.Proofs.YtangofjpnhhfeabDoor
open Go.RowKit
set_option maxRecDepth 100000 in
theorem iExtend (f : Int) (a : Option Addr) (l : List Int) (cap : Nat) (a2 : Option Addr) (m : List Int) (cap2 : Nat) (x : Int) (w : World) (hn : l.length ≤ 1048576) (hn2 : m.length ≤ 1048576) (hs : SrcC w a l.length cap (lf l)) (hs2 : SrcC w a2 m.length cap2 (lf m)) (ht : Tab w) : Calls Tryd.prog 29 #[.int .i64 f, .slice a l.length cap, .slice a2 m.length cap2, .int .i64 x] w (IntP w (mExtend f l m x)) := by
  have HI := Lib.hid (iInterpolate f a l cap a2 m cap2 w hn hn2 hs hs2 ht)
  by_cases h1 : InterOk f l m
  · have hf := h1.1.1
    have hq := h1.is
    have hl := h1.1.2.1.2
    rw [show mInterpolate0 f l m = interL f (lf l) (lf m) l.length by unfold mInterpolate0; rw [if_pos h1], show mInterpolate1 f l m = true by unfold mInterpolate1; simp [h1]] at HI
    by_cases h2 : 0 ≤ x ∧ x < P f
    · have HX : Hid (∀ w1, Below w.heap.size w w1 → Calls Tryd.prog 59 #[.int .i64 f, .int .i64 x] w1 (SameB w1 true)) := Lib.hid fun w1 hb => by
        have := hasX_c f x w1 (ht.below hb) hf.1 hf.2
        rwa [decide_eq_true h2] at this
      have HV : Hid (∀ (a3 : Option Addr) (c3 : Nat) (w1 : World), Below w.heap.size w w1 → Src w1 a3 (interL f (lf l) (lf m) l.length).length (lf (interL f (lf l) (lf m) l.length)) → Calls Tryd.prog 60 #[.int .i64 f, .slice a3 (interL f (lf l) (lf m) l.length).length c3, .int .i64 x] w1 (IntP w (mExtend f l m x))) := Lib.hid fun a3 c3 w1 hb hs3 => by
        refine (value_c f x a3 (interL f (lf l) (lf m) l.length) c3 w1 (ht.below hb) hf.1 hf.2 (by have := hq.2.1; omega) h2.1 h2.2 hq.1 hs3).mono fun e w' h => ?_
        rw [show mExtend f l m x = evL f x (interL f (lf l) (lf m) l.length) by unfold mExtend; rw [if_pos ⟨h1, h2⟩]]
        exact ⟨h.1, below_up hb h.2 hb.size⟩
      clear hs hs2 ht h1 h2 hq
      generalize interL f (lf l) (lf m) l.length = V at *
      generalize mExtend f l m x = R at *
      go_enter Tryd.func29, Tryd.ntmps29
      go_wp2_with fail
      refine HI.out.mono ?_
      rintro e w1 ⟨a3, c3, rfl, o3, b3⟩
      have HX2 := Lib.hid (HX.out w1 b3)
      have HV2 := Lib.hid (HV.out a3 c3 w1 b3 o3.src)
      clear o3
      go_wp2_with fail
      refine HX2.out.mono ?_
      rintro e w' ⟨rfl, rfl⟩
      go_wp2_with fail
      refine HV2.out.mono ?_
      rintro e w2 ⟨rfl, b4⟩
      go_wp2
      go_ret
      exact ⟨rfl, b4⟩
    · have HX : Hid (∀ w1, Below w.heap.size w w1 → Calls Tryd.prog 59 #[.int .i64 f, .int .i64 x] w1 (SameB w1 false)) := Lib.hid fun w1 hb => by
        have := hasX_c f x w1 (ht.below hb) hf.1 hf.2
        rwa [decide_eq_false h2] at this
      rw [show mExtend f l m x = -1 by unfold mExtend; rw [if_neg fun h => h2 h.2]]
      clear hs hs2 ht h1 h2 hq
      generalize interL f (lf l) (lf m) l.length = V at *
      go_enter Tryd.func29, Tryd.ntmps29
      go_wp2_with fail
      refine HI.out.mono ?_
      rintro e w1 ⟨a3, c3, rfl, o3, b3⟩
      have HX2 := Lib.hid (HX.out w1 b3)
      clear o3
      go_wp2_with fail
      refine HX2.out.mono ?_
      rintro e w' ⟨rfl, rfl⟩
      go_wp2
      go_ret
      exact ⟨rfl, b3⟩
  · rw [show mInterpolate1 f l m = false by unfold mInterpolate1; simp [h1]] at HI
    rw [show mExtend f l m x = -1 by unfold mExtend; rw [if_neg fun h => h1 h.1]]
    clear hs hs2 ht h1
    generalize mInterpolate0 f l m = V at *
    go_enter Tryd.func29, Tryd.ntmps29
    go_wp2_with fail
    refine HI.out.mono ?_
    rintro e w1 ⟨a3, c3, rfl, o3, b3⟩
    clear o3
    go_wp2
    go_ret
    exact ⟨rfl, b3⟩
set_option maxRecDepth 100000 in
theorem isCode_c (f : Int) (a : Option Addr) (l : List Int) (cap : Nat) (k : Int) (w : World) (hn : l.length ≤ 1048576) (hs : SrcC w a l.length cap (lf l)) (ht : Tab w) : Calls Tryd.prog 48 #[.int .i64 f, .slice a l.length cap, .int .i64 k] w (SameB w (mCode f l k)) := by
  have HP := Lib.hid (iPointsOk f a l cap w hn hs ht)
  clear hs ht
  by_cases h1 : l.length ≤ 10
  · have hd1 : decide ((l.length : Int) ≤ 10) = true := decide_eq_true (by omega)
    by_cases h2 : PtsOk f l
    · rw [pts_iff.2 h2] at HP
      by_cases h3 : 1 ≤ k
      · have hd3 : decide ((1 : Int) ≤ k) = true := decide_eq_true h3
        have HR : Hid (mCode f l k = decide (k ≤ (l.length : Int))) := Lib.hid (by
          by_cases h4 : k ≤ (l.length : Int)
          · rw [decide_eq_true h4, code_iff.2 ⟨h1, h2, h3, h4⟩]
          · rw [decide_eq_false h4, code_not.2 fun h => h4 h.2.2.2])
        rw [HR.out]
        clear h1 h2 HR
        generalize l.length = n at *
        obtain ⟨B, hB⟩ : ∃ B, decide (k ≤ (n : Int)) = B := ⟨_, rfl⟩
        go_enter Tryd.func48, Tryd.ntmps48
        go_wp2_with fail
        refine HP.out.mono ?_
        rintro e w' ⟨rfl, rfl⟩
        go_wp2
        go_ret
        exact ⟨by rw [hB]; rfl, rfl⟩
      · have hd3 : decide ((1 : Int) ≤ k) = false := decide_eq_false h3
        rw [code_not.2 fun h => h3 h.2.2.1]
        clear h1 h2 h3
        go_enter Tryd.func48, Tryd.ntmps48
        go_wp2_with fail
        refine HP.out.mono ?_
        rintro e w' ⟨rfl, rfl⟩
        go_wp2
        go_ret
        exact ⟨rfl, rfl⟩
    · rw [pts_not.2 h2] at HP
      rw [code_not.2 fun h => h2 h.2.1]
      clear h1 h2
      go_enter Tryd.func48, Tryd.ntmps48
      go_wp2_with fail
      refine HP.out.mono ?_
      rintro e w' ⟨rfl, rfl⟩
      go_wp2
      go_ret
      exact ⟨rfl, rfl⟩
  · have hd1 : decide ((l.length : Int) ≤ 10) = false := decide_eq_false (by omega)
    rw [code_not.2 fun h => h1 h.1]
    clear h1 HP
    go_enter Tryd.func48, Tryd.ntmps48
    go_wp2
    go_ret
    exact ⟨rfl, rfl⟩
end Go.Proofs.YtangofjpnhhfeabDoor
namespace Go.Proofs.YtangofjpnhhfeabDoor
open Go.RowKit
set_option maxRecDepth 100000 in
theorem difference_c (f : Int) (a a2 : Option Addr) (l m : List Int) (cap cap2 : Nat) (w : World) (ht : Tab w) (h0 : 0 ≤ f) (h8 : f ≤ 8) (hn : l.length ≤ 1048576) (hn2 : m.length ≤ 1048576) (hl : Pol f l) (hm : Pol f m) (hs : Src w a l.length (lf l)) (hs2 : Src w a2 m.length (lf m)) :
    Calls Tryd.prog 113 #[.int .i64 f, .slice a l.length cap, .slice a2 m.length cap2] w (OwnG w (addL f l (scaleL f m (-1)))) := by
  have hp := P_bd h0 h8
  have HP := Lib.hid (prime_c f w ht h0 h8)
  have HS : Hid (Calls Tryd.prog 118 #[.int .i64 f, .slice a2 m.length cap2, .int .i64 (P f - 1)] w (OwnG w (scaleL f m (-1)))) := Lib.hid (by
    have := scaled_c f (P f - 1) a2 m cap2 w ht h0 h8 hn2 (by omega) (by omega) hm hs2
    rwa [scale_neg] at this)
  have hsl := scaleL_le f m (-1)
  have HA : Hid (∀ (g : Nat) (w1 : World), Below w.heap.size w w1 → Own w1 g (scaleL f m (-1)).length (lf (scaleL f m (-1))) → Calls Tryd.prog 111 #[.int .i64 f, .slice a l.length cap, .slice (some ⟨g, 0, none⟩) (scaleL f m (-1)).length (scaleL f m (-1)).length] w1 (OwnG w (addL f l (scaleL f m (-1))))) := Lib.hid fun g w1 hb ho =>
    (sum_c f a _ l (scaleL f m (-1)) cap _ w1 (ht.below hb) h0 h8 hn (by omega) hl (pol_scaleL h0 h8 _ _) (hs.keep hb) ho.src).mono fun _ _ h => h.up hb
  clear hs hs2 hl hm hn hn2 hsl ht
  generalize scaleL f m (-1) = S at *
  generalize addL f l S = R at *
  generalize l.length = n at *
  generalize m.length = k at *
  go_enter Tryd.func113, Tryd.ntmps113
  go_wp2_with fail
  refine HP.out.mono ?_
  rintro e w' ⟨rfl, rfl⟩
  go_wp2_with fail
  refine HS.out.mono ?_
  rintro e w1 ⟨g1, rfl, hg1, o1, b1⟩
  have HA2 := Lib.hid (HA.out g1 w1 b1 o1)
  clear o1 b1
  go_wp2_with fail
  refine HA2.out.mono ?_
  intro e w2 h2
  have HR := Lib.hid h2
  obtain ⟨g2, rfl, _⟩ := h2
  go_wp2
  go_ret
  exact HR.out
/-- What the divisions answer: a remainder and its factor. -/
def FracP (f : Int) (X Y : Nat → Int) (n bound : Nat) (w : World) (e : Ending) (w' : World) : Prop :=
  ∃ r0 r1 v0 v1 g1 g2, EeaAt f X Y n bound r0 r1 v0 v1 ∧ 2 * (List.length r1 - 1) < bound ∧ e = .returned (.tuple #[.slice (some ⟨g1, 0, none⟩) (List.length r1) (List.length r1), .slice (some ⟨g2, 0, none⟩) (List.length v1) (List.length v1)]) ∧ Own w' g1 (List.length r1) (lf r1) ∧ Own w' g2 (List.length v1) (lf v1) ∧ Below w.heap.size w w'
set_option maxRecDepth 100000 in
set_option maxHeartbeats 6400000 in
theorem fraction_c (f : Int) (h0 : 0 ≤ f) (h8 : f ≤ 8) (b g n bound : Nat) (pl pr : Option Addr) (X Y : Nat → Int) (aa : Option Addr) (cap : Nat) (w : World) (hT : TreeW f w n (some ⟨b, 0, none⟩) X n) (hN : NodeW w b f g n pl pr) (hO : Own w g (n + 1) (lf (vanL f X n))) (n1 : 1 ≤ n) (h40 : n ≤ 40) (hb1 : 1 ≤ bound) (hb2 : bound ≤ 2 * n) (ht : Tab w) (hd : DistinctS f X n) (hY : ∀ j, j < n → 0 ≤ Y j ∧ Y j < P f) (hs : Src w aa n Y) :
    Calls Tryd.prog 102 #[.pointer (some ⟨b, 0, none⟩), .slice aa n cap, .int .i64 bound] w (FracP f X Y n bound w) := by
  have hv := vanL_len h0 h8 X n
  have b0 : Below w.heap.size w w.drew := (Below.refl _ _).drew
  have PT : Hid (Calls Tryd.prog 56 #[.pointer (some ⟨b, 0, none⟩), .slice aa n cap] w.drew (OwnG w.drew (interL f X Y n))) := Lib.hid (through_u f h0 h8 b g n pl pr X Y aa cap w.drew (hT.keep b0) (hN.keep b0 hN.lt) (hO.keep b0) n1 h40 (ht.below b0) hd hY (hs.keep b0))
  have HST := Lib.hid (EeaAt.start (b := bound) h0 h8 hb2 hY (interL_is h0 h8 n1 hd hY))
  have HNX : Hid (∀ r0 r1 v0 v1 q r : List Int, EeaAt f X Y n bound r0 r1 v0 v1 → r1.length ≠ 0 → bound ≤ 2 * (r1.length - 1) → DivP f r0 r1 q r → EeaAt f X Y n bound r1 r v1 (addL f v0 (scaleL f (mulL f q v1) (-1)))) := Lib.hid fun r0 r1 v0 v1 q r h hz hb hd => h.step h0 h8 hz hb hd
  have P0 : Hid (∀ W, Calls Tryd.prog 71 #[.slice none 0 0] W (fun e w' => ∃ g0, e = .returned (.slice (some ⟨g0, 0, none⟩) 0 0) ∧ W.heap.size ≤ g0 ∧ Own w' g0 0 (lf []) ∧ Below W.heap.size W w')) := Lib.hid fun W => poly_none none 0 (lf []) W
  have P1 : Hid (∀ W, Calls Tryd.prog 71 #[.slice (some ⟨W.heap.size, 0, none⟩) 1 1] (W.alloc (.cells #[.int .i64 1] 3)) (fun e w' => ∃ g0, e = .returned (.slice (some ⟨g0, 0, none⟩) 1 1) ∧ W.heap.size ≤ g0 ∧ Own w' g0 1 (lf [1]) ∧ Below W.heap.size W w')) := Lib.hid fun W => by
    have h1 := poly_c (some ⟨W.heap.size, 0, none⟩) 1 1 (lf [1]) (W.alloc (.cells #[.int .i64 1] 3)) (by omega) (src_one1 W)
    have e1 : cutL 1 (lf [1]) = [1] := rfl
    rw [e1] at h1
    exact h1.mono fun e w' h => h.up (u := W) ((Below.refl _ _).alloc (Nat.le_refl _) _)
  have PD : Hid (∀ (r0 r1 : List Int) (g0 g1 : Nat) W, Below w.heap.size w W → Pol f r0 → Pol f r1 → r0.length ≤ 42 → r1.length ≤ 42 → r1.length ≠ 0 → Own W g0 r0.length (lf r0) → Own W g1 r1.length (lf r1) → Calls Tryd.prog 103 #[.int .i64 f, .slice (some ⟨g0, 0, none⟩) r0.length r0.length, .slice (some ⟨g1, 0, none⟩) r1.length r1.length] W (DivR f r0 r1 W)) := Lib.hid fun r0 r1 g0 g1 W hb p0 p1 l0 l1 lz o0 o1 =>
    divide_c f _ _ r0 r1 _ _ W (ht.below hb) h0 h8 (by omega) (by omega) lz p0 p1 o0.src o1.src
  have PM : Hid (∀ (q v : List Int) (g0 g1 : Nat) W, Below w.heap.size w W → Pol f q → Pol f v → q.length ≤ 42 → v.length ≤ 42 → Own W g0 q.length (lf q) → Own W g1 v.length (lf v) → Calls Tryd.prog 87 #[.int .i64 f, .slice (some ⟨g0, 0, none⟩) q.length q.length, .slice (some ⟨g1, 0, none⟩) v.length v.length] W (OwnG W (mulL f q v))) := Lib.hid fun q v g0 g1 W hb p0 p1 l0 l1 o0 o1 =>
    product_c f _ _ q v _ _ W (ht.below hb) h0 h8 (by omega) (by omega) p0 p1 o0.src o1.src
  have PS : Hid (∀ (v0 q v : List Int) (g0 g1 : Nat) W, Below w.heap.size w W → Pol f v0 → v0.length ≤ 42 → q.length ≤ 42 → v.length ≤ 42 → Own W g0 v0.length (lf v0) → Own W g1 (mulL f q v).length (lf (mulL f q v)) → Calls Tryd.prog 113 #[.int .i64 f, .slice (some ⟨g0, 0, none⟩) v0.length v0.length, .slice (some ⟨g1, 0, none⟩) (mulL f q v).length (mulL f q v).length] W (OwnG W (addL f v0 (scaleL f (mulL f q v) (-1))))) := Lib.hid fun v0 q v g0 g1 W hb p0 l0 l1 l2 o0 o1 =>
    difference_c f _ _ v0 (mulL f q v) _ _ W (ht.below hb) h0 h8 (by omega) (by have := mulL_le f q v; omega) p0 (pol_mulL h0 h8 _ _) o0.src o1.src
  have HQ : Hid (∀ r0 r1 v0 v1 q r : List Int, EeaAt f X Y n bound r0 r1 v0 v1 → DivP f r0 r1 q r → q.length ≤ 42) := Lib.hid fun r0 r1 v0 v1 q r h hd => by
    have h1 := quo_lenB h0 h8 h.1.1 h.1.2.1 (Nat.le_of_lt h.2.1.1) hd
    have h2 := hd.2.2.1
    have h3 := h.2.1.2.2.1
    have h4 := h.2.1.2.1
    omega
  have k0 : w.cell? ⟨b, 1, none⟩ = some (.slice (some ⟨g, 0, none⟩) (n + 1) (n + 1)) := hN.2.1
  have k1 : w.drew.cell? ⟨b, 1, none⟩ = some (.slice (some ⟨g, 0, none⟩) (n + 1) (n + 1)) := hN.2.1
  have a0 := hN.1
  have lb := hN.lt
  have HO : Hid (Own w g (vanL f X n).length (lf (vanL f X n))) := Lib.hid (by rw [hv]; exact hO)
  rw [← hv] at k0 k1
  clear hT hN hO ht hd hY hs hv
  generalize interL f X Y n = I at *
  generalize hV : vanL f X n = V at *
  go_enter Tryd.func102, Tryd.ntmps102
  go_wp2_with fail
  go_region_held3 (fun W1 => W1.cell? ⟨b, 1, none⟩ = some (.slice (some ⟨g, 0, none⟩) V.length V.length))
    (first | exact k0 | exact k1 | exact k2 | go_keep)
    ((go_at_call 56; refine PT.out.mono ?_; rintro e w1 ⟨g1, rfl, hg1, o1, b1⟩; have b2 := below_up b0 b1 b0.size; have k2 : w1.cell? ⟨b, 1, none⟩ = some (.slice (some ⟨g, 0, none⟩) V.length V.length) := (b1.cell (p := ⟨b, 1, none⟩) lb).trans k1))
  clear k0 k1 k2 a0 PT
  go_wp2_with fail
  refine (P0.out _).mono ?_
  rintro e w2 ⟨g2, rfl, hg2, o2, b3⟩
  have b4 := below_up b2 b3 b2.size
  have o3 := o1.keep b3
  clear o1 b3 b2 b0 b1
  go_wp2_with fail
  refine (P1.out _).mono ?_
  rintro e w3 ⟨g3, rfl, hg3, o4, b5⟩
  have b6 := below_up b4 b5 b4.size
  have o5 := o2.keep b5
  have o6 := o3.keep b5
  have o7 := HO.out.keep b6
  have HSTART : Hid (∃ (r0 r1 v0 v1 : List Int) (q0 q1 q2 q3 : Nat), Value.slice (some ⟨g, 0, none⟩) V.length V.length = .slice (some ⟨q0, 0, none⟩) r0.length r0.length ∧ Value.slice (some ⟨g1, 0, none⟩) I.length I.length = .slice (some ⟨q1, 0, none⟩) r1.length r1.length ∧ Value.slice (some ⟨g2, 0, none⟩) 0 0 = .slice (some ⟨q2, 0, none⟩) v0.length v0.length ∧ Value.slice (some ⟨g3, 0, none⟩) 1 1 = .slice (some ⟨q3, 0, none⟩) v1.length v1.length ∧ EeaAt f X Y n bound r0 r1 v0 v1 ∧ Own w3 q0 r0.length (lf r0) ∧ Own w3 q1 r1.length (lf r1) ∧ Own w3 q2 v0.length (lf v0) ∧ Own w3 q3 v1.length (lf v1) ∧ Below w.heap.size w w3) := Lib.hid ⟨V, I, [], [1], g, g1, g2, g3, rfl, rfl, rfl, rfl, HST.out, o7, o6, o5, o4, b6⟩
  clear o2 o3 o4 o5 o6 o7 b4 b5 b6 HO HST P0 P1
  trace_state
  go_wp2_with fail
  go_loopw [9, 10, 11, 12] (fun x0 x1 x2 x3 wr => ∃ (r0 r1 v0 v1 : List Int) (q0 q1 q2 q3 : Nat), x0 = .slice (some ⟨q0, 0, none⟩) r0.length r0.length ∧ x1 = .slice (some ⟨q1, 0, none⟩) r1.length r1.length ∧ x2 = .slice (some ⟨q2, 0, none⟩) v0.length v0.length ∧ x3 = .slice (some ⟨q3, 0, none⟩) v1.length v1.length ∧ EeaAt f X Y n bound r0 r1 v0 v1 ∧ Own wr q0 r0.length (lf r0) ∧ Own wr q1 r1.length (lf r1) ∧ Own wr q2 v0.length (lf v0) ∧ Own wr q3 v1.length (lf v1) ∧ Below w.heap.size w wr) (fun _ x1 _ _ _ => match x1 with | .slice _ n _ => n | _ => 0)
  case atStart => exact HSTART.out
  case round =>
    clear HSTART
    obtain ⟨r0, r1, v0, v1, q0, q1, q2, q3, rfl, rfl, rfl, rfl, hE, o0, o1, o2, o3, hb⟩ := hrel
    have l1 := hE.2.1.1
    have l2 := hE.2.1.2.1
    have l3 := hE.2.1.2.2.1
    have r1b : (r1.length : Int) ≤ 42 := by omega
    by_cases h1 : (bound : Int) ≤ 2 * ((r1.length : Int) - 1)
    · have hd1 : decide ((bound : Int) ≤ 2 * ((r1.length : Int) - 1)) = true := decide_eq_true h1
      have HDV := Lib.hid (PD.out r0 r1 q0 q1 wr hb hE.1.1 hE.1.2.1 (by omega) (by omega) (by omega) o0 o1)
      have HE := Lib.hid hE
      have HO1 := Lib.hid o1
      have HO2 := Lib.hid o2
      have HO3 := Lib.hid o3
      have HB := Lib.hid hb
      have HL : Hid (r1.length ≤ 42 ∧ r0.length ≤ 42 ∧ v0.length ≤ 42 ∧ v1.length ≤ 42 ∧ r1.length ≠ 0 ∧ bound ≤ 2 * (r1.length - 1)) := Lib.hid (by omega)
      clear hE o0 o1 o2 o3 hb l1 l2 l3 h1
      go_wp2_with fail
      refine HDV.out.mono ?_
      rintro e w4 ⟨gq, gr, q, r, rfl, hdv, hgq, hgr, oq, or', b7⟩
      have b8 := below_up HB.out b7 HB.out.size
      have HM := Lib.hid (PM.out q v1 gq q3 w4 b8 hdv.1 HE.out.1.2.2.2 (HQ.out _ _ _ _ _ _ HE.out hdv) HL.out.2.2.2.1 oq (HO3.out.keep b7))
      have HDP := Lib.hid hdv
      have HB8 := Lib.hid b8
      have HB7 := Lib.hid b7
      have HOR := Lib.hid or'
      clear hdv oq or' b7 b8 HDV
      go_wp2_with fail
      refine HM.out.mono ?_
      rintro e w5 ⟨g5, rfl, hg5, o5, b9⟩
      have b10 := below_up HB8.out b9 HB8.out.size
      have HS2 := Lib.hid (PS.out v0 q v1 q2 g5 w5 b10 HE.out.1.2.2.1 HL.out.2.2.1 (HQ.out _ _ _ _ _ _ HE.out HDP.out) HL.out.2.2.2.1 ((HO2.out.keep HB7.out).keep b9) o5)
      have HB10 := Lib.hid b10
      have HB9 := Lib.hid b9
      clear o5 b9 b10 HM
      go_wp2_with fail
      refine HS2.out.mono ?_
      rintro e w6 ⟨g6, rfl, hg6, o6, b11⟩
      have HNEW : Hid (EeaAt f X Y n bound r1 r v1 (addL f v0 (scaleL f (mulL f q v1) (-1))) ∧ Own w6 q1 r1.length (lf r1) ∧ Own w6 gr r.length (lf r) ∧ Own w6 q3 v1.length (lf v1) ∧ Own w6 g6 (addL f v0 (scaleL f (mulL f q v1) (-1))).length (lf (addL f v0 (scaleL f (mulL f q v1) (-1)))) ∧ Below w.heap.size w w6) := Lib.hid ⟨HNX.out _ _ _ _ _ _ HE.out HL.out.2.2.2.2.1 HL.out.2.2.2.2.2 HDP.out, ((HO1.out.keep HB7.out).keep HB9.out).keep b11, (HOR.out.keep HB9.out).keep b11, ((HO3.out.keep HB7.out).keep HB9.out).keep b11, o6, below_up HB10.out b11 HB10.out.size⟩
      have hlt := HDP.out.2.2.1
      clear o6 b11 HS2
      go_wp2
      go_roundw
      case rel => exact ⟨r1, r, v1, _, q1, gr, q3, g6, rfl, rfl, rfl, rfl, HNEW.out⟩
      case measure => exact hlt
    · have hd1 : decide ((bound : Int) ≤ 2 * ((r1.length : Int) - 1)) = false := decide_eq_false h1
      have HF : Hid (FracP f X Y n bound w (.returned (.tuple #[.slice (some ⟨q1, 0, none⟩) r1.length r1.length, .slice (some ⟨q3, 0, none⟩) v1.length v1.length])) wr) := Lib.hid ⟨r0, r1, v0, v1, q1, q3, hE, by omega, rfl, o1, o3, hb⟩
      clear hE o0 o1 o2 o3 hb l1 l2 l3
      go_wp2
      go_ret2
      exact HF.out
end Go.Proofs.YtangofjpnhhfeabDoor
namespace Go.Proofs.YtangofjpnhhfeabDoor
open Go.RowKit
theorem padded_trunc (a : Option Addr) (l : List Int) (cap N : Nat) (w : World) (hl : N ≤ l.length) (hN : N ≤ 1048576) (hs : Src w a l.length (lf l)) : Calls Tryd.prog 91 #[.slice a l.length cap, .int .i64 N] w (OwnG w (padL l N)) := by
  have hmk := made_n N hN
  have HS := Lib.hid hs
  have HO : Hid (∀ w', Own w' w.heap.size N (fun j => if j < N then lf l j else 0) → Below w.heap.size w w' → OwnG w (padL l N) (.returned (.slice (some ⟨w.heap.size, 0, none⟩) N N)) w') := Lib.hid fun w' ho hb => OwnG.of_own ho (padL_len l N).symm (Nat.le_refl _) (fun j hj => by
    unfold padL
    rw [lf_tab, if_pos hj]) hb
  clear hs
  go_enter Tryd.func91, Tryd.ntmps91
  go_wp2_with (with_reducible refine wpList_copy_made rfl _ _ rfl N 0 N N l.length cap _ _ (lf l) rfl rfl (fun _ => rfl) hl (by omega) HS.out ?_)
  intro w2 H2 hb
  have HR := Lib.hid (HO.out w2 H2.out hb)
  clear hmk H2 HO
  go_wp2
  go_ret
  exact HR.out
theorem padded_any (a : Option Addr) (l : List Int) (cap N : Nat) (w : World) (hN : N ≤ 1048576) (hs : Src w a l.length (lf l)) : Calls Tryd.prog 91 #[.slice a l.length cap, .int .i64 N] w (OwnG w (padL l N)) := by
  by_cases h : l.length ≤ N
  · exact padded_c a l cap N w h hN hs
  · exact padded_trunc a l cap N w (by omega) hN hs
theorem block_cell {w : World} {g j : Nat} {cs : Array Value} {t : TypeId} {v : Value} (h : w.heap[g]? = some (.cells cs t)) (hj : cs[j]? = some v) : w.cell? ⟨g, j, none⟩ = some v := by
  unfold World.cell?
  simp [h, hj]
theorem block_frozen {w : World} {g j : Nat} {cs : Array Value} {t : TypeId} (h : w.heap[g]? = some (.cells cs t)) : w.frozen? ⟨g, j, none⟩ = false := by
  unfold World.frozen?
  simp [h]
/-- What a decoder answers: the message and the places that are wrong, or that there is none. -/
def DecR (f : Int) (xs ys : List Int) (k : Nat) (w : World) (e : Ending) (w' : World) : Prop :=
  ((∃ m, QDec f xs ys k m) ∧ ∃ gm a c, e = .returned (.tuple #[.agg #[.slice (some ⟨gm, 0, none⟩) k k, .slice a (blameL f xs ys k).length c], .nilIface]) ∧ w.heap.size ≤ gm ∧ Own w' gm k (lf (decL f xs ys k)) ∧ OwnM w' w.heap.size a (blameL f xs ys k) c ∧ Below w.heap.size w w') ∨
  ((¬ ∃ m, QDec f xs ys k m) ∧ ∃ x : Int, e = .returned (.tuple #[.agg #[.slice none 0 0, .slice none 0 0], .iface 80 (.agg #[.int .i64 x])]) ∧ Below w.heap.size w w')
theorem OwnM.other {w : World} {B g2 s : Nat} {a : Option Addr} {l : List Int} {cap : Nat} {v : Value} (h : OwnM w B a l cap) (hne : g2 < B) : OwnM (w.setCell ⟨g2, s, none⟩ v) B a l cap :=
  h.imp id fun ⟨g, h1, h2, h3⟩ => ⟨g, h1, h2, h3.other (by omega)⟩
theorem own_other' {w : World} {g g2 n s : Nat} {F : Nat → Int} {v : Value} (h : Own w g n F) (hne : g2 < g) : Own (w.setCell ⟨g2, s, none⟩ v) g n F := World.rowIs.setOther h (a := ⟨g2, s, none⟩) (by show g ≠ g2; omega) v
set_option maxRecDepth 100000 in
set_option maxHeartbeats 6400000 in
theorem decode_u (f : Int) (b g : Nat) (pl pr : Option Addr) (xs ys : List Int) (k : Nat) (aa : Option Addr) (cap : Nat) (w : World) (hT : TreeW f w xs.length (some ⟨b, 0, none⟩) (lf xs) xs.length) (hN : NodeW w b f g xs.length pl pr) (hO : Own w g (xs.length + 1) (lf (vanL f (lf xs) xs.length))) (hp : PtsOk f xs) (hy : ys.length = xs.length) (he : ElsOk f ys) (n10 : xs.length ≤ 10) (k1 : 1 ≤ k) (hk : k ≤ xs.length) (ht : Tab w) (hs : Src w aa xs.length (lf ys)) :
    Calls Tryd.prog 77 #[.pointer (some ⟨b, 0, none⟩), .slice aa xs.length cap, .int .i64 k] w (DecR f xs ys k w) := by
  have h0 := hp.1.1
  have h8 := hp.1.2
  have n1 := hp.2.1.1
  have PF : Hid (∀ W, Below w.heap.size w W → Calls Tryd.prog 102 #[.pointer (some ⟨b, 0, none⟩), .slice aa xs.length cap, .int .i64 ((xs.length : Int) + k)] W (FracP f (lf xs) (lf ys) xs.length (xs.length + k) W)) := Lib.hid fun W hb => by
    have := fraction_c f h0 h8 b g xs.length (xs.length + k) pl pr (lf xs) (lf ys) aa cap W (hT.keep hb) (hN.keep hb hN.lt) (hO.keep hb) n1 (by omega) (by omega) (by omega) (ht.below hb) hp.dist (fun j hj => he j (by omega)) (hs.keep hb)
    rwa [show ((xs.length + k : Nat) : Int) = (xs.length : Int) + k from by push_cast; rfl] at this
  have PD : Hid (∀ (r0 r1 v0 v1 : List Int) (g1 g2 : Nat) W, EeaAt f (lf xs) (lf ys) xs.length (xs.length + k) r0 r1 v0 v1 → Below w.heap.size w W → Own W g1 r1.length (lf r1) → Own W g2 v1.length (lf v1) → Calls Tryd.prog 103 #[.int .i64 f, .slice (some ⟨g1, 0, none⟩) r1.length r1.length, .slice (some ⟨g2, 0, none⟩) v1.length v1.length] W (DivR f r1 v1 W)) := Lib.hid fun r0 r1 v0 v1 g1 g2 W hE hb o1 o2 =>
    divide_c f _ _ r1 v1 _ _ W (ht.below hb) h0 h8 (by have := hE.2.1.1; have := hE.2.1.2.2.1; omega) (by have := hE.2.1.2.2.1; omega) (by have := hE.2.1.2.1; omega) hE.1.2.1 hE.1.2.2.2 o1.src o2.src
  have PP : Hid (∀ (q : List Int) (gq : Nat) W, q.length ≤ 1048576 → Own W gq q.length (lf q) → Calls Tryd.prog 91 #[.slice (some ⟨gq, 0, none⟩) q.length q.length, .int .i64 k] W (fun e w' => ∃ gm, e = .returned (.slice (some ⟨gm, 0, none⟩) k k) ∧ W.heap.size ≤ gm ∧ Own w' gm k (lf (padL q k)) ∧ Below W.heap.size W w')) := Lib.hid fun q gq W hq ho => by
    refine (padded_any _ q _ k W (by omega) ho.src).mono fun e w' h => ?_
    obtain ⟨gm, h1, h2, h3, h4⟩ := h
    rw [padL_len] at h1 h3
    exact ⟨gm, h1, h2, h3, h4⟩
  have PO : Hid (∀ (m : List Int) (gm : Nat) W, Own W gm k (lf m) → Calls Tryd.prog 71 #[.slice (some ⟨gm, 0, none⟩) k k] W (OwnG W (cutL k (lf m)))) := Lib.hid fun m gm W ho => poly_c _ k k (lf m) W (by omega) ho.src
  have PV : Hid (∀ (q : List Int) (g5 : Nat) W, Pol f q → Below w.heap.size w W → Own W g5 (cutL k (lf (padL q k))).length (lf (cutL k (lf (padL q k)))) → Calls Tryd.prog 58 #[.pointer (some ⟨b, 0, none⟩), .slice (some ⟨g5, 0, none⟩) (cutL k (lf (padL q k))).length (cutL k (lf (padL q k))).length] W (fun e w' => ∃ g6 c6, e = .returned (.slice (some ⟨g6, 0, none⟩) xs.length c6) ∧ Src w' (some ⟨g6, 0, none⟩) xs.length (lf (encL f xs (padL q k))) ∧ Below W.heap.size W w')) := Lib.hid fun q g5 W hq hb ho => by
    have hle := cutL_le k (lf (padL q k))
    refine (values_c f h0 h8 xs.length _ (lf xs) xs.length _ (cutL k (lf (padL q k))) _ W (hT.keep hb) (by omega) (ht.below hb) (msg_pol h0 h8 (padL_len q k) (padL_els hq)) (by omega) ho.src).mono fun e w' h => ?_
    rw [vals_enc (padL_len q k)] at h
    obtain ⟨g6, c6, h1, h2, h3, h4⟩ := h.form (by rw [encL_len]; exact n1)
    rw [encL_len] at h1 h3
    exact ⟨g6, c6, h1, h3, h4⟩
  have PW7 : Hid (∀ (q : List Int) (g6 c6 : Nat) W, Below w.heap.size w W → Src W (some ⟨g6, 0, none⟩) xs.length (lf (encL f xs (padL q k))) → Calls Tryd.prog 72 #[.slice aa xs.length cap, .slice (some ⟨g6, 0, none⟩) xs.length c6] W (OwnLM W (dfL ys (encL f xs (padL q k))))) := Lib.hid fun q g6 c6 W hb hs6 => by
    have := differing_c aa ys cap (some ⟨g6, 0, none⟩) (encL f xs (padL q k)) c6 W (by omega) (by rw [encL_len]; omega) (by rw [hy]; exact hs.keep hb) (by rw [encL_len]; exact hs6)
    rw [encL_len, hy] at this
    exact this.mono fun e w' h => h.m
  have HAN : Hid (∀ r0 r1 v0 v1 q r : List Int, EeaAt f (lf xs) (lf ys) xs.length (xs.length + k) r0 r1 v0 v1 → 2 * (r1.length - 1) < xs.length + k → DivP f r1 v1 q r → ((dfL ys (encL f xs (padL q k))).length ≤ (xs.length - k) / 2 → (∃ m, QDec f xs ys k m) ∧ decL f xs ys k = padL q k ∧ dfL ys (encL f xs (padL q k)) = blameL f xs ys k) ∧ (¬ (dfL ys (encL f xs (padL q k))).length ≤ (xs.length - k) / 2 → ¬ ∃ m, QDec f xs ys k m)) := Lib.hid fun r0 r1 v0 v1 q r hE hend hd => by
    have := hE.answer hp hy k1 hk hend hd
    rw [dfL_len]
    exact ⟨fun h => ⟨⟨_, (this.1 h).1⟩, (this.1 h).2⟩, this.2⟩
  have HQL : Hid (∀ r0 r1 v0 v1 q r : List Int, EeaAt f (lf xs) (lf ys) xs.length (xs.length + k) r0 r1 v0 v1 → DivP f r1 v1 q r → q.length ≤ 1048576) := Lib.hid fun r0 r1 v0 v1 q r hE hd => by
    have h1 := div_len h0 h8 hE.1.2.2.2 hd
    have h2 := hE.2.1.1
    have h3 := hE.2.1.2.1
    have h4 := hE.2.1.2.2.1
    omega
  have kk : Hid (∀ W, Below w.heap.size w W → W.cell? ⟨b, 0, none⟩ = some (.int .i64 f)) := Lib.hid fun W hb => (hN.keep hb hN.lt).1
  have e2 : ((xs.length : Int) - k).tdiv 2 = (((xs.length - k) / 2 : Nat) : Int) := by
    rw [Int.tdiv_eq_ediv_of_nonneg (by omega)]
    omega
  obtain ⟨M, hM⟩ : ∃ M, (xs.length - k) / 2 = M := ⟨_, rfl⟩
  rw [hM] at e2 HAN
  have hMb : M ≤ 10 := by omega
  have b1 : Below w.heap.size w (w.alloc (.cells #[.slice none 0 0, .slice none 0 0] 51)) := (Below.refl _ _).alloc (Nat.le_refl _) _
  have HB0 : Hid ((w.alloc (.cells #[.slice none 0 0, .slice none 0 0] 51)).heap[w.heap.size]? = some (.cells #[.slice none 0 0, .slice none 0 0] 51)) := Lib.hid (heap_alloc_new w _)
  have hz : (w.alloc (.cells #[.slice none 0 0, .slice none 0 0] 51)).heap.size = w.heap.size + 1 := by simp
  have HSZ := Lib.hid hz
  have nb : (xs.length : Int) ≤ 10 := by omega
  have nk : (k : Int) ≤ 10 := by omega
  clear hT hN hO hp he ht hs hz hy
  generalize xs.length = n at *
  go_enter Tryd.func77, Tryd.ntmps77
  go_wp2_with fail
  refine (PF.out _ b1).mono ?_
  rintro e w2 ⟨r0, r1, v0, v1, g1, g2, hE, hend, rfl, o1, o2, b2⟩
  have b3 := below_up b1 b2 b1.size
  have c3 := kk.out _ b3
  have HD := Lib.hid (PD.out r0 r1 v0 v1 g1 g2 w2 hE b3 o1 o2)
  have HE := Lib.hid hE
  have HB2 := Lib.hid b2
  have HB3 := Lib.hid b3
  clear hE o1 o2 b2 b3 PF PD
  go_wp2_with fail
  refine HD.out.mono ?_
  rintro e w3 ⟨gq, gr, q, r, rfl, hdv, hgq, hgr, oq, or', b4⟩
  have b5 := below_up HB3.out b4 HB3.out.size
  have HP := Lib.hid (PP.out q gq w3 (HQL.out _ _ _ _ _ _ HE.out hdv) oq)
  have HA := Lib.hid (HAN.out _ _ _ _ _ _ HE.out hend hdv)
  have HQP := Lib.hid hdv.1
  have HB4 := Lib.hid (HB2.out.trans (b4.mono HB2.out.size))
  have HB5 := Lib.hid b5
  clear hdv oq or' b4 b5 HD HE HAN HQL PP c3 hend HB2 HB3
  go_wp2_with fail
  refine HP.out.mono ?_
  rintro e w4 ⟨gm, rfl, hgm, om, b6⟩
  have HB6 := Lib.hid (HB4.out.trans (b6.mono HB4.out.size))
  have HB7 := Lib.hid (below_up HB5.out b6 HB5.out.size)
  have HOM := Lib.hid om
  have HPO := Lib.hid (PO.out (padL q k) gm w4 om)
  have hgm1 : w.heap.size + 1 ≤ gm := by have := HB4.out.size; have := HSZ.out; omega
  clear om b6 HP PO HB4 HB5
  go_wp2_with fail
  refine HPO.out.mono ?_
  rintro e w5 ⟨g5, rfl, hg5, o5, b8⟩
  have HB8 := Lib.hid (HB6.out.trans (b8.mono HB6.out.size))
  have HB9 := Lib.hid (below_up HB7.out b8 HB7.out.size)
  have HPV := Lib.hid (PV.out q g5 w5 HQP.out HB9.out o5)
  have HOM5 := Lib.hid (HOM.out.keep b8)
  clear o5 b8 HPO PV HOM HB6 HB7
  go_wp2_with fail
  refine HPV.out.mono ?_
  rintro e w6 ⟨g6, c6, rfl, s6, b10⟩
  have HB10 := Lib.hid (HB8.out.trans (b10.mono HB8.out.size))
  have HB11 := Lib.hid (below_up HB9.out b10 HB9.out.size)
  have HPW := Lib.hid (PW7.out q g6 c6 w6 HB11.out s6)
  have HOM6 := Lib.hid (HOM5.out.keep b10)
  clear s6 b10 HPV PW7 HOM5 HB8 HB9
  go_wp2_with fail
  refine HPW.out.mono ?_
  rintro e w7 ⟨a7, c7, rfl, m7, b12⟩
  have HB12 := Lib.hid (HB10.out.trans (b12.mono HB10.out.size))
  have HB13 := Lib.hid (below_up HB11.out b12 HB11.out.size)
  have HOM7 := Lib.hid (HOM6.out.keep b12)
  have HM7 := Lib.hid (m7.low (B' := w.heap.size + 1) (by have := HB10.out.size; have := HSZ.out; omega))
  have hblk : w7.heap[w.heap.size]? = some (.cells #[.slice none 0 0, .slice none 0 0] 51) := (HB12.out.block _ (by have := HSZ.out; omega)).trans HB0.out
  have d0 := block_cell (j := 0) hblk rfl
  have d1 := block_cell (j := 1) hblk rfl
  have f0 := block_frozen (j := 0) hblk
  have f1 := block_frozen (j := 1) hblk
  simp only [List.getElem_toArray, List.getElem_cons_zero, List.getElem_cons_succ] at d0 d1
  clear m7 b12 HPW HOM6 HB10 HB11 hblk HB0 HB12
  by_cases hc : (dfL ys (encL f xs (padL q k))).length ≤ M
  · have hd1 : decide ((M : Int) < ((dfL ys (encL f xs (padL q k))).length : Int)) = false := decide_eq_false (by omega)
    have hd1n : decide (M < (dfL ys (encL f xs (padL q k))).length) = false := decide_eq_false (by omega)
    have HRES : Hid (DecR f xs ys k w (.returned (.tuple #[.agg #[.slice (some ⟨gm, 0, none⟩) k k, .slice a7 (dfL ys (encL f xs (padL q k))).length c7], .nilIface])) ((w7.setCell ⟨w.heap.size, 0, none⟩ (.slice (some ⟨gm, 0, none⟩) k k)).setCell ⟨w.heap.size, 1, none⟩ (.slice a7 (dfL ys (encL f xs (padL q k))).length c7))) := Lib.hid (by
      obtain ⟨q1, q2, q3⟩ := HA.out.1 hc
      refine .inl ⟨q1, gm, a7, c7, ?_, by omega, ?_, ?_, (HB13.out.setCell (p := ⟨w.heap.size, 0, none⟩) (Nat.le_refl _) _).setCell (p := ⟨w.heap.size, 1, none⟩) (Nat.le_refl _) _⟩
      · rw [q3]
      · rw [q2]
        exact own_other' (own_other' HOM7.out (by omega)) (by omega)
      · have := HM7.out
        rw [q3] at this ⊢
        exact ((this.other (by omega)).other (by omega)).low (by omega))
    clear HA HOM7 HM7 HB13 hc
    generalize dfL ys (encL f xs (padL q k)) = V at *
    go_wp2
    refine bodyPost_ret (v := .tuple #[.agg #[.slice (some ⟨gm, 0, none⟩) k k, .slice a7 V.length c7], .nilIface]) (by simp [results, Tryd.results77, go_sem, *]) rfl ?_
    exact HRES.out
  · have hd1 : decide ((M : Int) < ((dfL ys (encL f xs (padL q k))).length : Int)) = true := decide_eq_true (by omega)
    have hd1n : decide (M < (dfL ys (encL f xs (padL q k))).length) = true := decide_eq_true (by omega)
    have HRES : Hid (DecR f xs ys k w (.returned (.tuple #[.agg #[.slice none 0 0, .slice none 0 0], .iface 80 (.agg #[.int .i64 M])])) ((w7.setCell ⟨w.heap.size, 0, none⟩ (.slice none 0 0)).setCell ⟨w.heap.size, 1, none⟩ (.slice none 0 0))) := Lib.hid (.inr ⟨HA.out.2 hc, M, rfl, (HB13.out.setCell (p := ⟨w.heap.size, 0, none⟩) (Nat.le_refl _) _).setCell (p := ⟨w.heap.size, 1, none⟩) (Nat.le_refl _) _⟩)
    clear HA HOM7 HM7 HB13 hc
    generalize dfL ys (encL f xs (padL q k)) = V at *
    go_wp2
    refine bodyPost_ret (v := .tuple #[.agg #[.slice none 0 0, .slice none 0 0], .iface 80 (.agg #[.int .i64 M])]) (by simp [results, Tryd.results77, go_sem, *]) rfl ?_
    exact HRES.out
end Go.Proofs.YtangofjpnhhfeabDoor
namespace Go.Proofs.YtangofjpnhhfeabDoor
open Go.RowKit
/-- errors.As at an error of the target's type: what lies below the target stays. -/
theorem as_hit_b (m : Int) (t : Nat) (old : Value) (w : World) (hg : Ety w) (ht0 : w.cell? ⟨t, 0, none⟩ = some old) (hf0 : w.frozen? ⟨t, 0, none⟩ = false) :
    Calls Tryd.prog 78 #[.iface 80 (.agg #[.int .i64 m]), .iface 82 (.pointer (some ⟨t, 0, none⟩))] w fun ev w' => ev = .returned (.bool true) ∧ Below t w w' := by
  refine (as_hit m t old w hg ht0 hf0).mono ?_
  rintro e w' ⟨rfl, rfl⟩
  have htl : t < w.heap.size := block_lt_of_cell ht0
  exact ⟨rfl, (((((Below.refl t w).alloc (by omega) _).alloc (by simp; omega) _).alloc (by simp; omega) _).alloc (by simp; omega) _).setCell (p := ⟨t, 0, none⟩) (Nat.le_refl _) _⟩
/-- What the decoder of words answers. -/
def DwP (f : Int) (xs ys : List Int) (k : Int) (w : World) (e : Ending) (w' : World) : Prop :=
  (DecOk f xs ys k ∧ ∃ gm a c, e = .returned (.tuple #[.agg #[.slice (some ⟨gm, 0, none⟩) k.toNat k.toNat, .slice a (blameL f xs ys k.toNat).length c], .bool true]) ∧ w.heap.size ≤ gm ∧ Own w' gm k.toNat (lf (decL f xs ys k.toNat)) ∧ OwnM w' w.heap.size a (blameL f xs ys k.toNat) c ∧ Below w.heap.size w w') ∨
  (¬ DecOk f xs ys k ∧ e = .returned (.tuple #[.agg #[.slice none 0 0, .slice none 0 0], .bool false]) ∧ Below w.heap.size w w')
set_option maxRecDepth 100000 in
set_option maxHeartbeats 3200000 in
theorem dw_off (f : Int) (a : Option Addr) (n cap : Nat) (a2 : Option Addr) (m cap2 : Nat) (k : Int) (w : World) (B1 : Bool)
    (HC : Hid (∀ o, Calls Tryd.prog 48 #[.int .i64 f, .slice a n cap, .int .i64 k] (w.alloc o) (SameB (w.alloc o) B1)))
    (HA : Hid (∀ o, B1 = true → m = n → Calls Tryd.prog 54 #[.int .i64 f, .slice a2 m cap2] (w.alloc o) (SameB (w.alloc o) false))) :
    Calls Tryd.prog 45 #[.int .i64 f, .slice a n cap, .slice a2 m cap2, .int .i64 k] w fun e w' => e = .returned (.tuple #[.agg #[.slice none 0 0, .slice none 0 0], .bool false]) ∧ Below w.heap.size w w' := by
  have hblk : (w.alloc (.cells #[.slice none 0 0, .slice none 0 0] 51)).heap[w.heap.size]? = some (.cells #[.slice none 0 0, .slice none 0 0] 51) := heap_alloc_new w _
  have d0 := block_cell (j := 0) hblk rfl
  have d1 := block_cell (j := 1) hblk rfl
  have f0 := block_frozen (j := 0) hblk
  have f1 := block_frozen (j := 1) hblk
  simp only [List.getElem_toArray, List.getElem_cons_zero, List.getElem_cons_succ] at d0 d1
  have hb0 : Below w.heap.size w (w.alloc (.cells #[.slice none 0 0, .slice none 0 0] 51)) := (Below.refl _ _).alloc (Nat.le_refl _) _
  have HB2 := Lib.hid hb0
  have HB := Lib.hid ((hb0.setCell (p := ⟨w.heap.size, 0, none⟩) (Nat.le_refl _) (.slice none 0 0)).setCell (p := ⟨w.heap.size, 1, none⟩) (Nat.le_refl _) (.slice none 0 0))
  clear hblk hb0
  cases B1
  · go_enter Tryd.func45, Tryd.ntmps45
    go_wp2_with fail
    refine (HC.out _).mono ?_
    rintro e w' ⟨rfl, rfl⟩
    go_wp2
    refine bodyPost_ret (v := .tuple #[.agg #[.slice none 0 0, .slice none 0 0], .bool false]) (by simp [results, Tryd.results45, go_sem, *]) rfl ?_
    exact ⟨rfl, by first | exact HB2.out | exact HB.out⟩
  · by_cases hmn : m = n
    · have HA2 : Hid (∀ o, Calls Tryd.prog 54 #[.int .i64 f, .slice a2 m cap2] (w.alloc o) (SameB (w.alloc o) false)) := Lib.hid fun o => HA.out o rfl hmn
      have e2 : ((m : Int) != n) = false := by simp [hmn]
      have e3 : decide (m = n) = true := decide_eq_true hmn
      clear HA hmn
      go_enter Tryd.func45, Tryd.ntmps45
      go_wp2_with fail
      refine (HC.out _).mono ?_
      rintro e w' ⟨rfl, rfl⟩
      go_wp2_with fail
      refine (HA2.out _).mono ?_
      rintro e w' ⟨rfl, rfl⟩
      go_wp2
      refine bodyPost_ret (v := .tuple #[.agg #[.slice none 0 0, .slice none 0 0], .bool false]) (by simp [results, Tryd.results45, go_sem, *]) rfl ?_
      exact ⟨rfl, by first | exact HB2.out | exact HB.out⟩
    · have e2 : ((m : Int) != n) = true := by simp; omega
      have e3 : decide (m = n) = false := decide_eq_false hmn
      clear HA hmn
      go_enter Tryd.func45, Tryd.ntmps45
      go_wp2_with fail
      refine (HC.out _).mono ?_
      rintro e w' ⟨rfl, rfl⟩
      go_wp2
      refine bodyPost_ret (v := .tuple #[.agg #[.slice none 0 0, .slice none 0 0], .bool false]) (by simp [results, Tryd.results45, go_sem, *]) rfl ?_
      exact ⟨rfl, by first | exact HB2.out | exact HB.out⟩
set_option maxRecDepth 100000 in
set_option maxHeartbeats 6400000 in
theorem dw_on (f : Int) (a : Option Addr) (n cap : Nat) (a2 : Option Addr) (cap2 : Nat) (k : Nat) (xs ys : List Int) (w : World) (hg : Ety w)
    (HC : Hid (∀ o, Calls Tryd.prog 48 #[.int .i64 f, .slice a n cap, .int .i64 k] (w.alloc o) (SameB (w.alloc o) true)))
    (HA : Hid (∀ o, Calls Tryd.prog 54 #[.int .i64 f, .slice a2 n cap2] (w.alloc o) (SameB (w.alloc o) true)))
    (HT : Hid (∀ o, Calls Tryd.prog 55 #[.int .i64 f, .slice a n cap] (w.alloc o) (fun e w' => ∃ b : Nat, e = .returned (.pointer (some ⟨b, 0, none⟩)) ∧ Below (w.alloc o).heap.size (w.alloc o) w' ∧ Calls Tryd.prog 77 #[.pointer (some ⟨b, 0, none⟩), .slice a2 n cap2, .int .i64 k] w' (DecR f xs ys k w')))) :
    Calls Tryd.prog 45 #[.int .i64 f, .slice a n cap, .slice a2 n cap2, .int .i64 k] w fun e w' =>
      ((∃ m, QDec f xs ys k m) ∧ ∃ gm a c, e = .returned (.tuple #[.agg #[.slice (some ⟨gm, 0, none⟩) k k, .slice a (blameL f xs ys k).length c], .bool true]) ∧ w.heap.size ≤ gm ∧ Own w' gm k (lf (decL f xs ys k)) ∧ OwnM w' w.heap.size a (blameL f xs ys k) c ∧ Below w.heap.size w w') ∨
      ((¬ ∃ m, QDec f xs ys k m) ∧ e = .returned (.tuple #[.agg #[.slice none 0 0, .slice none 0 0], .bool false]) ∧ Below w.heap.size w w') := by
  have hb0 : Below w.heap.size w (w.alloc (.cells #[.slice none 0 0, .slice none 0 0] 51)) := (Below.refl _ _).alloc (Nat.le_refl _) _
  have HB0 := Lib.hid hb0
  have HBL := Lib.hid (heap_alloc_new w (.cells #[.slice none 0 0, .slice none 0 0] 51))
  have hz : (w.alloc (.cells #[.slice none 0 0, .slice none 0 0] 51)).heap.size = w.heap.size + 1 := by simp
  have HSZ := Lib.hid hz
  have HG := Lib.hid hg
  have e2 : ((n : Int) != n) = false := by simp
  clear hb0 hz hg
  go_enter Tryd.func45, Tryd.ntmps45
  go_wp2_with fail
  refine (HC.out _).mono ?_
  rintro e w' ⟨rfl, rfl⟩
  go_wp2_with fail
  refine (HA.out _).mono ?_
  rintro e w' ⟨rfl, rfl⟩
  go_wp2_with fail
  refine (HT.out _).mono ?_
  rintro e w1 ⟨b, rfl, hb1, HD⟩
  have HB1 := Lib.hid hb1
  have HDD := Lib.hid HD
  clear hb1 HD
  go_wp2_with fail
  refine HDD.out.mono ?_
  intro e w2 h2
  have hb12 : Below w.heap.size w w2 → True := fun _ => trivial
  have tok1 : True := trivial
  rcases h2 with ⟨hq, gm, a7, c7, rfl, hgm, om, m7, hb2⟩ | ⟨hq, x, rfl, hb2⟩
  ·
    have hs1 := HB1.out.size
    have hs0 := HSZ.out
    have hs2 := hb2.size
    have hb3 := below_up HB0.out HB1.out HB0.out.size
    have hb4 := below_up hb3 hb2 hb3.size
    have hblk0 : (((w2.alloc (.cells #[.slice (some ⟨gm, 0, none⟩) k k, .slice a7 (blameL f xs ys k).length c7] 51)).alloc (.cells #[.int .i64 0] 80)).heap[w.heap.size]? = some (.cells #[.slice none 0 0, .slice none 0 0] 51)) := by
      rw [heap_alloc_old _ _ (by simp; omega), heap_alloc_old _ _ (by omega)]
      exact (hb2.block _ (by omega)).trans ((HB1.out.block _ (by omega)).trans HBL.out)
    have hblk1 : (((w2.alloc (.cells #[.slice (some ⟨gm, 0, none⟩) k k, .slice a7 (blameL f xs ys k).length c7] 51)).alloc (.cells #[.int .i64 0] 80)).heap[w2.heap.size]? = some (.cells #[.slice (some ⟨gm, 0, none⟩) k k, .slice a7 (blameL f xs ys k).length c7] 51)) := by
      rw [heap_alloc_old _ _ (by simp)]
      exact heap_alloc_new w2 _
    have hblk2 : (((w2.alloc (.cells #[.slice (some ⟨gm, 0, none⟩) k k, .slice a7 (blameL f xs ys k).length c7] 51)).alloc (.cells #[.int .i64 0] 80)).heap[w2.heap.size + 1]? = some (.cells #[.int .i64 0] 80)) := by
      have := heap_alloc_new (w2.alloc (.cells #[.slice (some ⟨gm, 0, none⟩) k k, .slice a7 (blameL f xs ys k).length c7] 51)) (.cells #[.int .i64 0] 80)
      rwa [show (w2.alloc (.cells #[.slice (some ⟨gm, 0, none⟩) k k, .slice a7 (blameL f xs ys k).length c7] 51)).heap.size = w2.heap.size + 1 by simp] at this
    have hb5 : Below w2.heap.size w2 ((w2.alloc (.cells #[.slice (some ⟨gm, 0, none⟩) k k, .slice a7 (blameL f xs ys k).length c7] 51)).alloc (.cells #[.int .i64 0] 80)) := ((Below.refl _ _).alloc (Nat.le_refl _) _).alloc (by simp) _
    have hb6 := below_up hb4 hb5 hb4.size
    have d0 := block_cell (j := 0) hblk0 rfl
    have d1 := block_cell (j := 1) hblk0 rfl
    have f0 := block_frozen (j := 0) hblk0
    have f1 := block_frozen (j := 1) hblk0
    have e0 := block_cell (j := 0) hblk1 rfl
    have e1 := block_cell (j := 1) hblk1 rfl
    have t0 := block_cell (j := 0) hblk2 rfl
    have tf := block_frozen (j := 0) hblk2
    simp only [List.getElem_toArray, List.getElem_cons_zero, List.getElem_cons_succ] at d0 d1 e0 e1 t0
    have hne : w.heap.size ≠ w2.heap.size := by omega
    have hlw : w.heap.size < w2.heap.size + 1 := by omega
    have om2 := om.keep hb5
    have m8 := (m7.keep hb5).low (B' := w.heap.size + 1) (by omega)
    have hgm1 : w.heap.size < gm := by omega
    have HRES : Hid (∀ W, W = ((w2.alloc (.cells #[.slice (some ⟨gm, 0, none⟩) k k, .slice a7 (blameL f xs ys k).length c7] 51)).alloc (.cells #[.int .i64 0] 80)) → ((∃ m, QDec f xs ys k m) ∧ ∃ gm2 a c, Ending.returned (.tuple #[.agg #[.slice (some ⟨gm, 0, none⟩) k k, .slice a7 (blameL f xs ys k).length c7], .bool true]) = .returned (.tuple #[.agg #[.slice (some ⟨gm2, 0, none⟩) k k, .slice a (blameL f xs ys k).length c], .bool true]) ∧ w.heap.size ≤ gm2 ∧ Own ((W.setCell ⟨w.heap.size, 0, none⟩ (.slice (some ⟨gm, 0, none⟩) k k)).setCell ⟨w.heap.size, 1, none⟩ (.slice a7 (blameL f xs ys k).length c7)).drew gm2 k (lf (decL f xs ys k)) ∧ OwnM ((W.setCell ⟨w.heap.size, 0, none⟩ (.slice (some ⟨gm, 0, none⟩) k k)).setCell ⟨w.heap.size, 1, none⟩ (.slice a7 (blameL f xs ys k).length c7)).drew w.heap.size a (blameL f xs ys k) c ∧ Below w.heap.size w ((W.setCell ⟨w.heap.size, 0, none⟩ (.slice (some ⟨gm, 0, none⟩) k k)).setCell ⟨w.heap.size, 1, none⟩ (.slice a7 (blameL f xs ys k).length c7)).drew)) := Lib.hid (by
      rintro W rfl
      have o3 := own_other' (v := .slice a7 (blameL f xs ys k).length c7) (s := 1) (own_other' (v := .slice (some ⟨gm, 0, none⟩) k k) (s := 0) om2 hgm1) hgm1
      have m9 := (OwnM.other (g2 := w.heap.size) (s := 1) (v := .slice a7 (blameL f xs ys k).length c7) (OwnM.other (g2 := w.heap.size) (s := 0) (v := .slice (some ⟨gm, 0, none⟩) k k) m8 (Nat.lt_succ_self _)) (Nat.lt_succ_self _)).low (B' := w.heap.size) (Nat.le_succ _)
      exact ⟨hq, gm, a7, c7, rfl, by omega, o3, m9, ((hb6.setCell (p := ⟨w.heap.size, 0, none⟩) (Nat.le_refl _) _).setCell (p := ⟨w.heap.size, 1, none⟩) (Nat.le_refl _) _).drew⟩)
    clear hblk0 hblk1 hblk2 om m7 hb2 hb3 hb4 hb5 om2 m8 hb6 t0 tf
    go_wp2_with fail
    generalize hV : (blameL f xs ys k).length = L at *
    generalize hW : ((w2.alloc (.cells #[.slice (some ⟨gm, 0, none⟩) k k, .slice a7 L c7] 51)).alloc (.cells #[.int .i64 0] 80)) = W at *
    have HRES2 := Lib.hid (HRES.out W rfl)
    clear HRES hW
    go_region_held3 (fun W1 => W1.cell? ⟨w2.heap.size, 0, none⟩ = some (.slice (some ⟨gm, 0, none⟩) k k) ∧ W1.cell? ⟨w2.heap.size, 1, none⟩ = some (.slice a7 L c7))
      (first | exact ⟨e0, e1⟩ | go_keep)
      ((go_at_call 78; refine (as_nil _ _).mono ?_; rintro e w' ⟨rfl, rfl⟩))
    go_wp2
    refine bodyPost_ret (v := .tuple #[.agg #[.slice (some ⟨gm, 0, none⟩) k k, .slice a7 L c7], .bool true]) (by simp [results, Tryd.results45, go_sem, *]) rfl ?_
    subst hV
    exact .inl HRES2.out
  ·
    have hs1 := HB1.out.size
    have hs0 := HSZ.out
    have hs2 := hb2.size
    have hb3 := below_up HB0.out HB1.out HB0.out.size
    have hb4 := below_up hb3 hb2 hb3.size
    have hblk0 : (((w2.alloc (.cells #[.slice none 0 0, .slice none 0 0] 51)).alloc (.cells #[.int .i64 0] 80)).heap[w.heap.size]? = some (.cells #[.slice none 0 0, .slice none 0 0] 51)) := by
      rw [heap_alloc_old _ _ (by simp; omega), heap_alloc_old _ _ (by omega)]
      exact (hb2.block _ (by omega)).trans ((HB1.out.block _ (by omega)).trans HBL.out)
    have hblk1 : (((w2.alloc (.cells #[.slice none 0 0, .slice none 0 0] 51)).alloc (.cells #[.int .i64 0] 80)).heap[w2.heap.size]? = some (.cells #[.slice none 0 0, .slice none 0 0] 51)) := by
      rw [heap_alloc_old _ _ (by simp)]
      exact heap_alloc_new w2 _
    have hblk2 : (((w2.alloc (.cells #[.slice none 0 0, .slice none 0 0] 51)).alloc (.cells #[.int .i64 0] 80)).heap[w2.heap.size + 1]? = some (.cells #[.int .i64 0] 80)) := by
      have := heap_alloc_new (w2.alloc (.cells #[.slice none 0 0, .slice none 0 0] 51)) (.cells #[.int .i64 0] 80)
      rwa [show (w2.alloc (.cells #[.slice none 0 0, .slice none 0 0] 51)).heap.size = w2.heap.size + 1 by simp] at this
    have hb5 : Below w2.heap.size w2 ((w2.alloc (.cells #[.slice none 0 0, .slice none 0 0] 51)).alloc (.cells #[.int .i64 0] 80)) := ((Below.refl _ _).alloc (Nat.le_refl _) _).alloc (by simp) _
    have hb6 := below_up hb4 hb5 hb4.size
    have d0 := block_cell (j := 0) hblk0 rfl
    have d1 := block_cell (j := 1) hblk0 rfl
    have f0 := block_frozen (j := 0) hblk0
    have f1 := block_frozen (j := 1) hblk0
    have e0 := block_cell (j := 0) hblk1 rfl
    have e1 := block_cell (j := 1) hblk1 rfl
    have t0 := block_cell (j := 0) hblk2 rfl
    have tf := block_frozen (j := 0) hblk2
    simp only [List.getElem_toArray, List.getElem_cons_zero, List.getElem_cons_succ] at d0 d1 e0 e1 t0
    have hne : w.heap.size ≠ w2.heap.size := by omega
    have hlw : w.heap.size < w2.heap.size + 1 := by omega
    have HG2 := Lib.hid (HG.out.below hb6)
    have HB6 := Lib.hid hb6
    clear hblk0 hblk1 hblk2 hb2 hb3 hb4 hb5 hb6
    go_wp2_with fail
    generalize hW : ((w2.alloc (.cells #[.slice none 0 0, .slice none 0 0] 51)).alloc (.cells #[.int .i64 0] 80)) = W at *
    clear hW
    have HG3 : Hid (Ety W.drew) := Lib.hid HG2.out
    have t0' : W.drew.cell? ⟨w2.heap.size + 1, 0, none⟩ = some (.int .i64 0) := t0
    have tf' : W.drew.frozen? ⟨w2.heap.size + 1, 0, none⟩ = false := tf
    have HDR : Hid (∀ w3, Below (w2.heap.size + 1) W.drew w3 → w3.cell? ⟨w.heap.size, 0, none⟩ = some (.slice none 0 0) ∧ w3.cell? ⟨w.heap.size, 1, none⟩ = some (.slice none 0 0) ∧ w3.cell? ⟨w2.heap.size, 0, none⟩ = some (.slice none 0 0) ∧ w3.cell? ⟨w2.heap.size, 1, none⟩ = some (.slice none 0 0) ∧ w3.frozen? ⟨w.heap.size, 0, none⟩ = false ∧ w3.frozen? ⟨w.heap.size, 1, none⟩ = false ∧ Below w.heap.size w w3) := Lib.hid fun w3 hb => ⟨(hb.cell (p := ⟨w.heap.size, 0, none⟩) hlw).trans d0, (hb.cell (p := ⟨w.heap.size, 1, none⟩) hlw).trans d1, (hb.cell (p := ⟨w2.heap.size, 0, none⟩) (Nat.lt_succ_self _)).trans e0, (hb.cell (p := ⟨w2.heap.size, 1, none⟩) (Nat.lt_succ_self _)).trans e1, (World.frozen?_of_block (hb.block _ hlw)).trans f0, (World.frozen?_of_block (hb.block _ hlw)).trans f1, HB6.out.drew.trans (hb.mono (by omega))⟩
    go_region_held3 (fun W1 => W1.cell? ⟨w2.heap.size, 0, none⟩ = some (.slice none 0 0) ∧ W1.cell? ⟨w2.heap.size, 1, none⟩ = some (.slice none 0 0))
      (first | exact ⟨e0, e1⟩ | exact ⟨k3, k4⟩ | go_keep)
      ((go_at_call 78; refine (as_hit_b x _ (.int .i64 0) _ HG3.out t0' tf').mono ?_; rintro e w3 ⟨rfl, hb7⟩; obtain ⟨k1', k2', k3, k4, k5', k6', hb8⟩ := HDR.out w3 hb7; clear hb7))
    have HRES : Hid (Below w.heap.size w ((w3.setCell ⟨w.heap.size, 0, none⟩ (.slice none 0 0)).setCell ⟨w.heap.size, 1, none⟩ (.slice none 0 0))) := Lib.hid ((hb8.setCell (p := ⟨w.heap.size, 0, none⟩) (Nat.le_refl _) _).setCell (p := ⟨w.heap.size, 1, none⟩) (Nat.le_refl _) _)
    clear hb8
    go_wp2
    refine bodyPost_ret (v := .tuple #[.agg #[.slice none 0 0, .slice none 0 0], .bool false]) (by simp [results, Tryd.results45, go_sem, *]) rfl ?_
    exact .inr ⟨hq, rfl, by first | exact HRES.out | exact HRES.out.drew⟩
end Go.Proofs.YtangofjpnhhfeabDoor
namespace Go.Proofs.YtangofjpnhhfeabDoor
open Go.RowKit
theorem dec_on {f : Int} {xs ys : List Int} {k : Nat} (hw : WordOk f xs ys k) {s : Nat} (hc : cntN (bitP s) xs.length = k) (hd : difN (encL f xs (tryL f xs ys k (bitP s))) ys ≤ (xs.length - k) / 2) : DecOk f xs ys k ∧ decL f xs ys k = tryL f xs ys k (bitP s) := by
  have ht := tryL_els hw.1.2.1.1.1 hw.1.2.1.1.2 hw.1.2.1 hw.2.1 hw.2.2 (by have := hw.1.2.2.1; omega) hc
  have hq : QDec f xs ys k (tryL f xs ys k (bitP s)) := ⟨ht.1, ht.2, hd⟩
  exact ⟨⟨hw, _, hq⟩, decL_eq hw.1.2.1 hw.2.1 (by have := hw.1.2.2.2; omega) hq⟩
theorem dec_off {f : Int} {xs ys : List Int} {k : Nat} (hw : WordOk f xs ys k) (h : ∀ s, s < 2 ^ xs.length → cntN (bitP s) xs.length = k → ¬ difN (encL f xs (tryL f xs ys k (bitP s))) ys ≤ (xs.length - k) / 2) : ¬ DecOk f xs ys k := by
  rintro ⟨_, m, hm⟩
  obtain ⟨s, hs, hc, ht⟩ := QDec.found hw.1.2.1 hw.2.1 (by have := hw.1.2.2.1; omega) (by have := hw.1.2.2.2; omega) hm
  refine h s hs hc ?_
  have e : ((k : Nat) : Int).toNat = k := Int.toNat_natCast k
  rw [e] at ht hm
  rw [ht]
  exact hm.2.2
theorem mdec_on {f : Int} {xs ys : List Int} {k : Int} (h : DecOk f xs ys k) : mDecodeWord0 f xs ys k = decL f xs ys k.toNat ∧ mDecodeWord1 f xs ys k = (difN (encL f xs (decL f xs ys k.toNat)) ys : Nat) ∧ mDecodeWord2 f xs ys k = true := by
  unfold mDecodeWord0 mDecodeWord1 mDecodeWord2
  rw [if_pos h, if_pos h]
  exact ⟨rfl, rfl, by simp [h]⟩
theorem mdec_off {f : Int} {xs ys : List Int} {k : Int} (h : ¬ DecOk f xs ys k) : mDecodeWord0 f xs ys k = [] ∧ mDecodeWord1 f xs ys k = 0 ∧ mDecodeWord2 f xs ys k = false := by
  unfold mDecodeWord0 mDecodeWord1 mDecodeWord2
  rw [if_neg h, if_neg h]
  exact ⟨rfl, rfl, by simp [h]⟩
set_option maxRecDepth 100000 in
set_option maxHeartbeats 1600000 in
theorem sDecodeWord (f : Int) (a : Option Addr) (xs : List Int) (cap : Nat) (a2 : Option Addr) (ys : List Int) (cap2 : Nat) (k : Int) (w : World) (hn : xs.length ≤ 1048576) (hn2 : ys.length ≤ 1048576) (hs : SrcC w a xs.length cap (lf xs)) (hs2 : Src w a2 ys.length (lf ys)) : Calls Tryd.prog 10 #[.int .i64 f, .slice a xs.length cap, .slice a2 ys.length cap2, .int .i64 k] w (ListIB w (mDecodeWord0 f xs ys k) (mDecodeWord1 f xs ys k) (mDecodeWord2 f xs ys k)) := by
  have R := Lib.hid (code_c f a xs cap k w hn hs)
  have RE : Hid (∀ q, Calls Tryd.prog 42 #[.int .i64 f, .slice a2 ys.length cap2] (w.drewN q) (SameB (w.drewN q) (mEls f ys))) := Lib.hid fun q => els_c f a2 ys cap2 (w.drewN q) hn2 (hs2.keep (below_drewN (Below.refl _ _) q))
  have HB : Hid (∀ q, Below w.heap.size w (w.drewN q)) := Lib.hid fun q => below_drewN (Below.refl _ _) q
  by_cases h : WordOk f xs ys k
  · obtain ⟨r, rfl⟩ : ∃ r : Nat, k = r := ⟨k.toNat, by have := h.1.2.2.1; omega⟩
    rw [code_iff.2 h.1] at R
    rw [els_on h.1.2.1.1 h.2.2] at RE
    obtain ⟨hf, x1, x10, _, _⟩ := code_ok h.1
    obtain ⟨b, off, rfl, hlt, hc⟩ : ∃ b off, a = some ⟨b, off, none⟩ ∧ b < w.heap.size ∧ ∀ j, j < xs.length → w.cell? ⟨b, off + j, none⟩ = some (.int .i64 (lf xs j)) := by
      rcases hs.src with hq | hq
      · omega
      · exact hq
    obtain ⟨b2, off2, rfl, hlt2, hc2⟩ : ∃ b off, a2 = some ⟨b, off, none⟩ ∧ b < w.heap.size ∧ ∀ j, j < ys.length → w.cell? ⟨b, off + j, none⟩ = some (.int .i64 (lf ys j)) := by
      rcases hs2 with hq | hq
      · have := h.2.1; omega
      · exact hq
    rw [h.2.1] at RE hc2 ⊢
    refine (decode_c f b off xs.length cap xs b2 off2 cap2 ys r w rfl h.2.1 h hs.1 hlt hc hlt2 hc2 R RE).mono fun e w' hr => ?_
    have er : ((r : Nat) : Int).toNat = r := Int.toNat_natCast r
    rcases hr with ⟨s, l, _, rfl, hcs, hd, hl⟩ | ⟨hno, hl⟩
    · obtain ⟨h1, h2⟩ := dec_on h hcs hd
      obtain ⟨m0, m1, m2⟩ := mdec_on h1
      rw [m0, m1, m2, er, h2]
      exact hl
    · obtain ⟨m0, m1, m2⟩ := mdec_off (dec_off h hno)
      rw [m0, m1, m2]
      exact hl
  · obtain ⟨m0, m1, m2⟩ := mdec_off (f := f) (xs := xs) (ys := ys) (k := k) fun h2 => h h2.1
    rw [m0, m1, m2]
    clear hs hs2
    by_cases h1 : CodeOk f xs k
    · rw [code_iff.2 h1] at R
      by_cases h2 : ys.length = xs.length
      · have hd2 : ((ys.length : Int) != xs.length) = false := by rw [bne_eq_false_iff_eq]; omega
        rw [els_off fun h3 => h ⟨h1, h2, h3.2⟩] at RE
        clear h h1 h2
        generalize ys.length = ny at *
        generalize xs.length = nx at *
        go_enter Tryd.func10, Tryd.ntmps10
        go_wp2_with fail
        refine R.out.mono ?_
        rintro e w' ⟨rfl, q, rfl⟩
        go_wp2_with fail
        refine (RE.out q).mono ?_
        rintro e w' ⟨rfl, rfl⟩
        go_wp2
        go_ret3
        exact ⟨none, 0, rfl, Nat.le_refl _, .inl rfl, HB.out q⟩
      · have hd2 : ((ys.length : Int) != xs.length) = true := by rw [bne_iff_ne]; omega
        clear h h1 h2
        go_enter Tryd.func10, Tryd.ntmps10
        go_wp2_with fail
        refine R.out.mono ?_
        rintro e w' ⟨rfl, q, rfl⟩
        go_wp2
        go_ret3
        exact ⟨none, 0, rfl, Nat.le_refl _, .inl rfl, HB.out q⟩
    · rw [code_not.2 h1] at R
      clear h h1
      go_enter Tryd.func10, Tryd.ntmps10
      go_wp2_with fail
      refine R.out.mono ?_
      rintro e w' ⟨rfl, q, rfl⟩
      go_wp2
      go_ret3
      exact ⟨none, 0, rfl, Nat.le_refl _, .inl rfl, HB.out q⟩
end Go.Proofs.YtangofjpnhhfeabDoor
namespace Go.Proofs.YtangofjpnhhfeabDoor
open Go.RowKit
set_option maxRecDepth 100000 in
set_option maxHeartbeats 3200000 in
theorem blame_on (f : Int) (a : Option Addr) (_ : List Int) (cap : Nat) (b2 off2 : Nat) (ys : List Int) (cap2 : Nat) (k : Int) (w : World) (n : Nat) (m E : List Int) (d : Int) (n1 : 1 ≤ n) (n10 : n ≤ 10)
    (hlt2 : b2 < w.heap.size) (hc2 : ∀ j, j < n → w.cell? ⟨b2, off2 + j, none⟩ = some (.int .i64 (lf ys j)))
    (HD : Hid (∀ o, Calls Tryd.prog 10 #[.int .i64 f, .slice a n cap, .slice (some ⟨b2, off2, none⟩) n cap2, .int .i64 k] (w.alloc o) (ListIB (w.alloc o) m d true)))
    (HE : Hid (∀ W am cm, Below w.heap.size w W → SrcC W am m.length cm (lf m) → Calls Tryd.prog 38 #[.int .i64 f, .slice a n cap, .slice am m.length cm] W (OwnsL W E))) (hE : E.length = n) :
    Calls Tryd.prog 16 #[.int .i64 f, .slice a n cap, .slice (some ⟨b2, off2, none⟩) n cap2, .int .i64 k] w (ListL w (selL (fun i => lf E i != lf ys i) (fun i => (i : Int)) n)) := by
  have BA : Hid (∀ o, Below w.heap.size w (w.alloc o)) := Lib.hid fun o => (Below.refl _ _).alloc (Nat.le_refl _) o
  obtain ⟨PP, hPP⟩ : ∃ PP, (fun i => lf E i != lf ys i) = PP := ⟨_, rfl⟩
  have HP : Hid (∀ i, PP i = (lf E i != lf ys i)) := Lib.hid fun i => by rw [← hPP]
  rw [hPP]
  clear hPP
  have HF : Hid (∀ v W, W.ownsRow w.heap.size 3 1 v (cntN PP n) (xsF (lf (selL PP (fun i => (i : Int)) n)) (cntN PP n)) → Below w.heap.size w W → ListL w (selL PP (fun i => (i : Int)) n) (.returned v) W) := Lib.hid fun v W ho hb => (owns_to (w := w) ho (selL_len _ _ _).symm (fun j _ => rfl) hb).list
  have HX := Lib.hid (fun i h => @sel_yes PP (fun i => (i : Int)) i h)
  have HXN := Lib.hid (fun i h => @sel_no PP (fun i => (i : Int)) i h)
  have HCL := Lib.hid (fun i => cntN_le PP i)
  have HC2 := Lib.hid hc2
  have HEL := Lib.hid hE
  have OE := Lib.hid (own_empty w (lf (selL PP (fun i => (i : Int)) 0)))
  obtain ⟨i0, hi, hz0, hz1, hz2⟩ := info_parts info3
  have HI := Lib.hid hi
  have HZ0 := Lib.hid hz0
  have HZ1 := Lib.hid hz1
  have HZ2 := Lib.hid hz2
  clear hi hz0 hz1 hz2 hc2 hE
  go_enter Tryd.func16, Tryd.ntmps16
  go_wp2_with fail
  refine (HD.out _).mono ?_
  rintro e w2 ⟨am, cm, rfl, hcm, hsm, hb2⟩
  have hb1 := BA.out (.cells #[] 3)
  have hb3 := below_up hb1 hb2 hb1.size
  have hz : (w.alloc (.cells #[] 3)).heap.size = w.heap.size + 1 := by simp
  have hsz2 := hb2.size
  rw [hz] at hsz2
  have HOE2 := Lib.hid (owns_keep OE.out hb2)
  have HEE := Lib.hid (HE.out w2 am cm hb3 ⟨hcm, hsm⟩)
  clear hsm hb2 HD HE OE
  go_wp2_with fail
  refine HEE.out.mono ?_
  intro e w4 h4
  obtain ⟨v4, rfl, ho4, hb4⟩ := h4
  rw [HEL.out] at ho4
  obtain ⟨bs, c4, rfl, hbs, hov⟩ := OwnV.of_owns ho4 (by omega)
  have HCE : Hid (∀ j, j < n → w4.cell? ⟨bs, j, none⟩ = some (.int .i64 (lf E j))) := Lib.hid fun j hj => hov.cell hj
  have hlts := hov.lt
  have hb5 := below_up hb3 hb4 hb3.size
  have HOE4 := Lib.hid (owns_keep HOE2.out hb4)
  clear ho4 hov HEE HOE2 hb3 hb4
  go_wp2_with fail
  go_loopw [9, 14] (fun v iv wr => ∃ i : Nat, iv = .int .i64 i ∧ i ≤ n ∧ wr.ownsRow w.heap.size 3 1 v (cntN PP i) (xsF (lf (selL PP (fun i => (i : Int)) i)) (cntN PP i)) ∧ v.ownBlock ≠ some bs ∧ bs < wr.heap.size ∧ Hid (∀ j, j < n → wr.cell? ⟨bs, j, none⟩ = some (.int .i64 (lf E j))) ∧ Below w.heap.size w wr) (fun _ iv _ => n - (intOf iv).toNat)
  case atStart => exact ⟨0, rfl, Nat.zero_le _, HOE4.out, (fun e => by injection e with e; have e : w.heap.size = bs := e; omega), hlts, HCE, hb5⟩
  case round =>
    clear HOE4 HCE hlts hb5
    obtain ⟨i, rfl, hin, hown, hne, hlts, HCE, hnx⟩ := hrel
    have hcl := HCL.out i
    have hsz := hnx.size
    by_cases h1 : i < n
    · have hd1 : decide ((i : Int) < n) = true := decide_eq_true (by omega)
      have c1 : wr.cell? ⟨bs, i, none⟩ = some (.int .i64 (lf E i)) := HCE.out i h1
      have c2 : wr.cell? ⟨b2, off2 + i, none⟩ = some (.int .i64 (lf ys i)) := (hnx.cell (p := ⟨b2, off2 + i, none⟩) hlt2).trans (HC2.out i h1)
      have hi0 : (0 : Int) ≤ (i : Int) := by omega
      have hi2 : (i : Int) < n := by omega
      have hpi := HP.out i
      cases hB : PP i
      · have hbne : (lf E i != lf ys i) = false := by rw [← hpi]; exact hB
        have e1 := HXN.out i hB
        have HV : Hid (wr.ownsRow w.heap.size 3 1 _ (cntN PP (i + 1)) (xsF (lf (selL PP (fun i => (i : Int)) (i + 1))) (cntN PP (i + 1)))) := Lib.hid (by rw [e1.1, e1.2]; exact hown)
        clear hown e1 hpi
        go_wp2
        go_quiet (fail)
        rename_i nq
        have HV2 : Hid ((wr.drewN nq).ownsRow w.heap.size 3 1 _ (cntN PP (i + 1)) (xsF (lf (selL PP (fun i => (i : Int)) (i + 1))) (cntN PP (i + 1)))) := Lib.hid HV.out
        have hnx2 := below_drewN hnx nq
        clear HV c1 c2
        go_wp2
        go_roundw
        case rel => exact ⟨i + 1, by go_num, by omega, HV2.out, hne, hlts, HCE, hnx2⟩
        case measure => simp [intOf]; omega
      · have hbne : (lf E i != lf ys i) = true := by rw [← hpi]; exact hB
        have e1 := Lib.hid (HX.out i hB)
        have hge := own_ge hown
        clear hpi
        go_wp2
        go_quiet (fail)
        rename_i nq
        have hown2 : (wr.drewN nq).ownsRow w.heap.size 3 1 _ (cntN PP i) (xsF (lf (selL PP (fun i => (i : Int)) i)) (cntN PP i)) := hown
        have hnx2 := below_drewN hnx nq
        have HCE2 : Hid (∀ j, j < n → (wr.drewN nq).cell? ⟨bs, j, none⟩ = some (.int .i64 (lf E j))) := Lib.hid fun j hj => HCE.out j hj
        have hlt3 : bs < (wr.drewN nq).heap.size := hlts
        clear hown c1 c2 HCE hnx hlts
        generalize wr.drewN nq = W at *
        have hsz3 := hnx2.size
        go_wp2_with (at_builtin; refine wpList_append_own_at _ rfl _ _ 22 rfl w.heap.size 3 i0 (.int .i64 0) 1 8 Tryd.underlying22 HI.out HZ0.out HZ1.out HZ2.out rfl (by decide) _ _ _ rfl (hown2.alloc _) ⟨W.heap.size, 0, none⟩ 1 1 [.int .i64 (i : Int)] rfl rfl ?c1 ?c2 ?c3 ?c4 ?c5 ?_)
        case c1 => exact cell_one_new _ _ _
        case c2 => intro u hu; simp at hu; subst hu; rfl
        case c3 => unfold maxLen; omega
        case c4 => omega
        case c5 => simp; omega
        intro v' w6 hown' hgrow _ hat
        have hbel : Below w.heap.size w w6 := (hnx2.alloc hsz3 _).grown hgrow (by simp; omega) hge
        have HCE3 : Hid (∀ j, j < n → w6.cell? ⟨bs, j, none⟩ = some (.int .i64 (lf E j))) := Lib.hid fun j hj => hgrow.cell ((World.grownBy_alloc W _ none).cell (HCE2.out j hj) (by simp)) (fun e => hne e.symm)
        have hlt4 : bs < w6.heap.size := by have := hgrow.size; simp at this; omega
        have hne2 : v'.ownBlock ≠ some bs := fun e => by
          rcases hat with h | h
          · exact hne (h.symm.trans e)
          · rw [e] at h; injection h with h; first | omega | (simp at h; omega)
        rw [e1.out.1, e1.out.2] at hown'
        clear hgrow hown2 HCE2 hat hnx2
        go_wp2
        go_roundw
        case rel => exact ⟨i + 1, by go_num, by omega, hown', hne2, hlt4, HCE3, hbel⟩
        case measure => simp [intOf]; omega
    · have hd1 : decide ((i : Int) < n) = false := decide_eq_false (by omega)
      obtain rfl : i = n := by omega
      have HR := Lib.hid (HF.out _ wr hown hnx)
      clear hown
      go_wp2
      go_ret
      exact HR.out
set_option maxRecDepth 100000 in
theorem sBlame (f : Int) (a : Option Addr) (xs : List Int) (cap : Nat) (a2 : Option Addr) (ys : List Int) (cap2 : Nat) (k : Int) (w : World) (hn : xs.length ≤ 1048576) (hn2 : ys.length ≤ 1048576) (hs : SrcC w a xs.length cap (lf xs)) (hs2 : Src w a2 ys.length (lf ys)) : Calls Tryd.prog 16 #[.int .i64 f, .slice a xs.length cap, .slice a2 ys.length cap2, .int .i64 k] w (ListL w (mBlame f xs ys k)) := by
  have BA : Hid (∀ o, Below w.heap.size w (w.alloc o)) := Lib.hid fun o => (Below.refl _ _).alloc (Nat.le_refl _) o
  have HD : Hid (∀ o, Calls Tryd.prog 10 #[.int .i64 f, .slice a xs.length cap, .slice a2 ys.length cap2, .int .i64 k] (w.alloc o) (ListIB (w.alloc o) (mDecodeWord0 f xs ys k) (mDecodeWord1 f xs ys k) (mDecodeWord2 f xs ys k))) := Lib.hid fun o => sDecodeWord f a xs cap a2 ys cap2 k (w.alloc o) hn hn2 (hs.keep (BA.out o)) (hs2.keep (BA.out o))
  by_cases h : DecOk f xs ys k
  · obtain ⟨m0, m1, m2⟩ := mdec_on h
    rw [m0, m1, m2] at HD
    have hq := decL_is h
    have hw := h.1
    obtain ⟨hf, x1, x10, k1, k10⟩ := code_ok hw.1
    have hm : ((decL f xs ys k.toNat).length : Int) = k := by rw [hq.1]; omega
    have henc : EncOk f xs (decL f xs ys k.toNat) := ⟨by rw [hm]; exact hw.1, hq.2.1⟩
    obtain ⟨b2, off2, rfl, hlt2, hc2⟩ : ∃ b off, a2 = some ⟨b, off, none⟩ ∧ b < w.heap.size ∧ ∀ j, j < ys.length → w.cell? ⟨b, off + j, none⟩ = some (.int .i64 (lf ys j)) := by
      rcases hs2 with hq | hq
      · have := hw.2.1; omega
      · exact hq
    have HE : Hid (∀ W am cm, Below w.heap.size w W → SrcC W am (decL f xs ys k.toNat).length cm (lf (decL f xs ys k.toNat)) → Calls Tryd.prog 38 #[.int .i64 f, .slice a xs.length cap, .slice am (decL f xs ys k.toNat).length cm] W (OwnsL W (encL f xs (decL f xs ys k.toNat)))) := Lib.hid fun W am cm hb hsm => enc_on f a xs cap am _ cm W hn (by omega) (hs.keep hb) hsm henc
    rw [hw.2.1] at HD hc2 ⊢
    rw [show mBlame f xs ys k = selL (fun i => lf (encL f xs (decL f xs ys k.toNat)) i != lf ys i) (fun i => (i : Int)) xs.length by unfold mBlame blameL; rw [if_pos h]]
    exact blame_on f a xs cap b2 off2 ys cap2 k w xs.length _ _ _ x1 x10 hlt2 hc2 HD HE (encL_len _ _ _)
  · obtain ⟨m0, m1, m2⟩ := mdec_off h
    rw [m0, m1, m2] at HD
    rw [show mBlame f xs ys k = [] by unfold mBlame; rw [if_neg h]]
    clear h hs hs2 m0 m1 m2
    go_enter Tryd.func16, Tryd.ntmps16
    go_wp2_with fail
    refine (HD.out _).mono ?_
    rintro e w2 ⟨am, cm, rfl, hcm, hsm, hb2⟩
    have hb := below_up (BA.out _) hb2 (BA.out _).size
    clear hsm hb2
    go_wp2
    go_ret
    exact ⟨none, 0, rfl, .inl rfl, hb⟩
end Go.Proofs.YtangofjpnhhfeabDoor
namespace Go.Proofs.YtangofjpnhhfeabDoor
open Go.RowKit
theorem drewN_belowV (w : World) : ∀ q, Below w.heap.size w (w.drewN q)
  | 0 => Below.refl _ _
  | q + 1 => (drewN_belowV w q).drew
theorem decodeWord_c (f : Int) (a : Option Addr) (xs : List Int) (cap : Nat) (a2 : Option Addr) (ys : List Int) (cap2 : Nat) (k : Int) (w : World) (hn : xs.length ≤ 1048576) (hn2 : ys.length ≤ 1048576) (hs : SrcC w a xs.length cap (lf xs)) (hs2 : SrcC w a2 ys.length cap2 (lf ys)) (ht : Tab w) (hg : Ety w) : Calls Tryd.prog 45 #[.int .i64 f, .slice a xs.length cap, .slice a2 ys.length cap2, .int .i64 k] w (DwP f xs ys k w) := by
  have BA : ∀ o, Below w.heap.size w (w.alloc o) := fun o => (Below.refl _ _).alloc (Nat.le_refl _) o
  have HC : Hid (∀ o, Calls Tryd.prog 48 #[.int .i64 f, .slice a xs.length cap, .int .i64 k] (w.alloc o) (SameB (w.alloc o) (mCode f xs k))) := Lib.hid fun o => isCode_c f a xs cap k (w.alloc o) hn (hs.keep (BA o)) (ht.below (BA o))
  by_cases hw : WordOk f xs ys k
  · have hcode := hw.1
    have hp := hcode.2.1
    have hf := hp.1
    obtain ⟨K, rfl⟩ : ∃ K : Nat, k = K := ⟨k.toNat, by have := hcode.2.2.1; omega⟩
    have eK : (K : Int).toNat = K := Int.toNat_natCast K
    have hy := hw.2.1
    have k1 : 1 ≤ K := by have := hcode.2.2.1; omega
    have hk : K ≤ xs.length := by have := hcode.2.2.2; omega
    rw [code_iff.2 hcode] at HC
    have HA : Hid (∀ o, Calls Tryd.prog 54 #[.int .i64 f, .slice a2 xs.length cap2] (w.alloc o) (SameB (w.alloc o) true)) := Lib.hid fun o => by
      have := hasAll_c f a2 ys cap2 (w.alloc o) (ht.below (BA o)) hf.1 hf.2 hn2 (hs2.keep (BA o)).src true (by simp; exact hw.2.2)
      rwa [hy] at this
    have HT : Hid (∀ o, Calls Tryd.prog 55 #[.int .i64 f, .slice a xs.length cap] (w.alloc o) (fun e w' => ∃ b : Nat, e = .returned (.pointer (some ⟨b, 0, none⟩)) ∧ Below (w.alloc o).heap.size (w.alloc o) w' ∧ Calls Tryd.prog 77 #[.pointer (some ⟨b, 0, none⟩), .slice a2 xs.length cap2, .int .i64 K] w' (DecR f xs ys K w'))) := Lib.hid fun o => by
      refine (tree_pts f a xs cap (w.alloc o) (hs.keep (BA o)) (ht.below (BA o)) hp).mono ?_
      rintro e w' ⟨b, g, pl, pr, rfl, hgg, hN, hO, hT, hb⟩
      have hb2 := below_up (BA o) hb (BA o).size
      refine ⟨b, rfl, hb, decode_u f b g pl pr xs ys K a2 cap2 w' hT hN hO hp hy hw.2.2 hcode.1 k1 hk (ht.below hb2) ?_⟩
      have := (hs2.keep hb2).src
      rwa [hy] at this
    have h := dw_on f a xs.length cap a2 cap2 K xs ys w hg HC HA HT
    rw [hy]
    refine h.mono fun e w' h => ?_
    unfold DwP
    rw [eK]
    rcases h with ⟨hq, h⟩ | ⟨hq, h⟩
    · exact .inl ⟨⟨hw, by rw [eK]; exact hq⟩, h⟩
    · exact .inr ⟨fun hd => hq (by have := hd.2; rwa [eK] at this), h⟩
  · have hnd : ¬ DecOk f xs ys k := fun h => hw h.1
    refine (dw_off f a xs.length cap a2 ys.length cap2 k w (mCode f xs k) HC (Lib.hid fun o hB hmn => ?_)).mono fun e w' h => .inr ⟨hnd, h⟩
    have hcode := code_iff.1 hB
    have hf := hcode.2.1.1
    exact hasAll_c f a2 ys cap2 (w.alloc o) (ht.below (BA o)) hf.1 hf.2 hn2 (hs2.keep (BA o)).src false (by
      constructor
      · intro h; cases h
      · intro h; exact absurd ⟨hcode, hmn, h⟩ hw)
theorem blame_len {f : Int} {xs ys : List Int} {k : Int} (h : DecOk f xs ys k) : ((blameL f xs ys k.toNat).length : Int) = (difN (encL f xs (decL f xs ys k.toNat)) ys : Nat) := by
  unfold blameL
  rw [selL_len, difN_same (by rw [encL_len, h.1.2.1]), encL_len]
def OwnIB (w : World) (l : List Int) (d : Int) (b : Bool) (e : Ending) (w' : World) : Prop := ∃ a cap, e = .returned (.tuple #[.slice a l.length cap, .int .i64 d, .bool b]) ∧ OwnA w' w.heap.size a l cap ∧ Below w.heap.size w w'
set_option maxRecDepth 100000 in
set_option maxHeartbeats 1600000 in
theorem iDecodeWord (f : Int) (a : Option Addr) (xs : List Int) (cap : Nat) (a2 : Option Addr) (ys : List Int) (cap2 : Nat) (k : Int) (w : World) (hn : xs.length ≤ 1048576) (hn2 : ys.length ≤ 1048576) (hs : SrcC w a xs.length cap (lf xs)) (hs2 : SrcC w a2 ys.length cap2 (lf ys)) (ht : Tab w) (hg : Ety w) : Calls Tryd.prog 12 #[.int .i64 f, .slice a xs.length cap, .slice a2 ys.length cap2, .int .i64 k] w (OwnIB w (mDecodeWord0 f xs ys k) (mDecodeWord1 f xs ys k) (mDecodeWord2 f xs ys k)) := by
  have HD := Lib.hid (decodeWord_c f a xs cap a2 ys cap2 k w hn hn2 hs hs2 ht hg)
  have HON : Hid (∀ (gm c L : Nat) (a7 : Option Addr) (w1 : World), DecOk f xs ys k → (blameL f xs ys k.toNat).length = L → w.heap.size ≤ gm → Own w1 gm k.toNat (lf (decL f xs ys k.toNat)) → Below w.heap.size w w1 → ∀ q, OwnIB w (mDecodeWord0 f xs ys k) (mDecodeWord1 f xs ys k) (mDecodeWord2 f xs ys k) (.returned (.tuple #[.slice (some ⟨gm, 0, none⟩) k.toNat k.toNat, .int .i64 L, .bool true])) ((w1.alloc (.cells #[.slice (some ⟨gm, 0, none⟩) k.toNat k.toNat, .slice a7 L c] 51)).drewN q)) := Lib.hid fun gm c L a7 w1 h hL hgm ho hb q => by
    obtain ⟨m0, m1, m2⟩ := mdec_on h
    rw [m0, m1, m2, ← blame_len h, hL]
    have hq := decL_is h
    have ho2 := ho.keep ((Below.refl w1.heap.size w1).alloc (Nat.le_refl _) (.cells #[.slice (some ⟨gm, 0, none⟩) k.toNat k.toNat, .slice a7 L c] 51))
    have hb2 := hb.alloc hb.size (.cells #[.slice (some ⟨gm, 0, none⟩) k.toNat k.toNat, .slice a7 L c] 51)
    have bq := drewN_belowV (w1.alloc (.cells #[.slice (some ⟨gm, 0, none⟩) k.toNat k.toNat, .slice a7 L c] 51)) q
    exact ⟨some ⟨gm, 0, none⟩, k.toNat, by rw [hq.1], .inr ⟨gm, rfl, hq.1.symm, hgm, by rw [hq.1]; exact ho2.keep bq⟩, below_up hb2 bq hb2.size⟩
  have HOFF : Hid (∀ w1, ¬ DecOk f xs ys k → Below w.heap.size w w1 → OwnIB w (mDecodeWord0 f xs ys k) (mDecodeWord1 f xs ys k) (mDecodeWord2 f xs ys k) (.returned (.tuple #[.slice none 0 0, .int .i64 0, .bool false])) w1) := Lib.hid fun w1 h hb => by
    obtain ⟨m0, m1, m2⟩ := mdec_off h
    rw [m0, m1, m2]
    exact ⟨none, 0, rfl, OwnA.nil rfl, hb⟩
  clear hs hs2 ht hg
  generalize mDecodeWord0 f xs ys k = R0 at *
  generalize mDecodeWord1 f xs ys k = R1 at *
  generalize mDecodeWord2 f xs ys k = R2 at *
  go_enter Tryd.func12, Tryd.ntmps12
  go_wp2_with fail
  refine HD.out.mono ?_
  intro e w1 h1
  rcases h1 with ⟨hd, gm, a7, c7, rfl, hgm, om, m7, hb⟩ | ⟨hd, rfl, hb⟩
  · obtain ⟨L, hL⟩ : ∃ L, (blameL f xs ys k.toNat).length = L := ⟨_, rfl⟩
    have HR := Lib.hid (HON.out gm c7 L a7 w1 hd hL hgm om hb)
    rw [hL]
    clear om m7 hb HON HOFF
    go_wp2
    go_quiet (fail)
    rename_i nq
    have HR2 := Lib.hid (HR.out nq)
    go_wp2
    go_ret3
    exact HR2.out
  · have hb2 := hb.alloc hb.size (.cells #[.slice none 0 0, .slice none 0 0] 51)
    have HR : Hid (∀ q, OwnIB w R0 R1 R2 (.returned (.tuple #[.slice none 0 0, .int .i64 0, .bool false])) ((w1.alloc (.cells #[.slice none 0 0, .slice none 0 0] 51)).drewN q)) := Lib.hid fun q => HOFF.out _ hd (below_up hb2 (drewN_belowV _ q) hb2.size)
    clear hb hb2 HON HOFF
    go_wp2
    go_quiet (fail)
    rename_i nq
    have HR2 := Lib.hid (HR.out nq)
    go_wp2
    go_ret3
    exact HR2.out
theorem len_dec {f : Int} {xs ys : List Int} {k : Int} (n : xs.length ≤ 1048576) : (mDecodeWord0 f xs ys k).length ≤ 1048576 := by
  by_cases h : DecOk f xs ys k
  · rw [(mdec_on h).1, (decL_is h).1]
    have := h.1.1.2.2.2
    omega
  · rw [(mdec_off h).1]; simp
theorem len_mDecodeWord0 (f : Int) (xs ys : List Int) (k : Int) (n : xs.length ≤ 1048576) (_n2 : ys.length ≤ 1048576) : (mDecodeWord0 f xs ys k).length ≤ 1048576 := len_dec n
set_option maxRecDepth 100000 in
theorem iBlame (f : Int) (a : Option Addr) (xs : List Int) (cap : Nat) (a2 : Option Addr) (ys : List Int) (cap2 : Nat) (k : Int) (w : World) (hn : xs.length ≤ 1048576) (hn2 : ys.length ≤ 1048576) (hs : SrcC w a xs.length cap (lf xs)) (hs2 : SrcC w a2 ys.length cap2 (lf ys)) (ht : Tab w) (hg : Ety w) : Calls Tryd.prog 17 #[.int .i64 f, .slice a xs.length cap, .slice a2 ys.length cap2, .int .i64 k] w (OwnLM w (mBlame f xs ys k)) := by
  have HD := Lib.hid (decodeWord_c f a xs cap a2 ys cap2 k w hn hn2 hs hs2 ht hg)
  have HON : Hid (∀ (c L : Nat) (v : Value) (a7 : Option Addr) (w1 : World), DecOk f xs ys k → (blameL f xs ys k.toNat).length = L → OwnM w1 w.heap.size a7 (blameL f xs ys k.toNat) c → Below w.heap.size w w1 → OwnLM w (mBlame f xs ys k) (.returned (.slice a7 L c)) (w1.alloc (.cells #[v, .slice a7 L c] 51))) := Lib.hid fun c L v a7 w1 h hL hm hb => by
    have e : mBlame f xs ys k = blameL f xs ys k.toNat := by unfold mBlame; rw [if_pos h]
    rw [e]
    subst hL
    exact ⟨a7, c, rfl, hm.keep ((Below.refl w1.heap.size w1).alloc (Nat.le_refl _) _), hb.alloc hb.size _⟩
  have HOFF : Hid (∀ w1, ¬ DecOk f xs ys k → Below w.heap.size w w1 → OwnLM w (mBlame f xs ys k) (.returned (.slice none 0 0)) w1) := Lib.hid fun w1 h hb => nil_m (by unfold mBlame; rw [if_neg h]) hb
  clear hs hs2 ht hg
  generalize mBlame f xs ys k = R at *
  go_enter Tryd.func17, Tryd.ntmps17
  go_wp2_with fail
  refine HD.out.mono ?_
  intro e w1 h1
  rcases h1 with ⟨hd, gm, a7, c7, rfl, hgm, om, m7, hb⟩ | ⟨hd, rfl, hb⟩
  · obtain ⟨L, hL⟩ : ∃ L, (blameL f xs ys k.toNat).length = L := ⟨_, rfl⟩
    have HR := Lib.hid (HON.out c7 L (.slice (some ⟨gm, 0, none⟩) k.toNat k.toNat) a7 w1 hd hL m7 hb)
    rw [hL]
    clear om m7 hb HON HOFF
    go_wp2
    go_ret
    exact HR.out
  · have HR := Lib.hid (HOFF.out (w1.alloc (.cells #[.slice none 0 0, .slice none 0 0] 51)) hd (hb.alloc hb.size _))
    clear hb HON HOFF
    go_wp2
    go_ret
    exact HR.out
theorem len_mBlame (f : Int) (xs ys : List Int) (k : Int) (n : xs.length ≤ 1048576) (_n2 : ys.length ≤ 1048576) : (mBlame f xs ys k).length ≤ 1048576 := by
  unfold mBlame
  split
  · unfold blameL
    rw [selL_len]
    have := cntN_le (fun i => lf (encL f xs (decL f xs ys k.toNat)) i != lf ys i) xs.length
    omega
  · simp
end Go.Proofs.YtangofjpnhhfeabDoor
namespace Go.Proofs.YtangofjpnhhfeabDoor
open Go.RowKit
theorem ListIB.up {u w w' : World} {l : List Int} {d : Int} {b : Bool} {e : Ending} (h : ListIB w l d b e w') (hb : Below u.heap.size u w) : ListIB u l d b e w' := by
  obtain ⟨a, c, h1, h2, h3, h4⟩ := h
  exact ⟨a, c, h1, h2, h3, below_up hb h4 hb.size⟩
theorem gaps_off {f : Int} {xs ys : List Int} {k : Int} {gone : List Int} (h : ¬ GapsOk f xs ys k gone) : mDecodeGaps0 f xs ys k gone = [] ∧ mDecodeGaps1 f xs ys k gone = 0 ∧ mDecodeGaps2 f xs ys k gone = false := by
  unfold mDecodeGaps0 mDecodeGaps1 mDecodeGaps2
  rw [if_neg h, if_neg h, if_neg h]
  exact ⟨rfl, rfl, rfl⟩
theorem gaps_on {f : Int} {xs ys : List Int} {k : Int} {gone : List Int} (h : GapsOk f xs ys k gone) : mDecodeGaps0 f xs ys k gone = mDecodeWord0 f (leftL gone xs xs.length) (leftL gone ys xs.length) k ∧ mDecodeGaps1 f xs ys k gone = mDecodeWord1 f (leftL gone xs xs.length) (leftL gone ys xs.length) k ∧ mDecodeGaps2 f xs ys k gone = mDecodeWord2 f (leftL gone xs xs.length) (leftL gone ys xs.length) k := by
  unfold mDecodeGaps0 mDecodeGaps1 mDecodeGaps2
  rw [if_pos h, if_pos h, if_pos h]
  exact ⟨rfl, rfl, rfl⟩
set_option maxRecDepth 100000 in
set_option maxHeartbeats 3200000 in
theorem gaps_c (f : Int) (b off n cap : Nat) (X : Nat → Int) (b2 off2 cap2 : Nat) (Y : Nat → Int) (k : Int) (a3 : Option Addr) (g cap3 : Nat) (G : Nat → Int) (w : World) (PP : Nat → Bool) (M0 D0 : List Int) (M1 D1 : Int) (M2 D2 : Bool) (n1 : 1 ≤ n) (n10 : n ≤ 10) (hg : g ≤ n) (hcap : n ≤ cap)
    (hlt : b < w.heap.size) (hc : ∀ j, j < n → w.cell? ⟨b, off + j, none⟩ = some (.int .i64 (X j))) (hlt2 : b2 < w.heap.size) (hc2 : ∀ j, j < n → w.cell? ⟨b2, off2 + j, none⟩ = some (.int .i64 (Y j))) (hs3 : Src w a3 g G)
    (RC : Hid (Calls Tryd.prog 41 #[.int .i64 f, .slice (some ⟨b, off, none⟩) n cap, .int .i64 k] w (DrewB w true)))
    (HOFF : Hid (∀ i, i < g → ¬ (0 ≤ G i ∧ G i ≤ (n : Int) - 1) ∨ (0 < i ∧ G i ≤ G (i - 1)) → M0 = [] ∧ M1 = 0 ∧ M2 = false))
    (HON : Hid ((∀ j, j < g → 0 ≤ G j ∧ G j ≤ (n : Int) - 1) → (∀ j, 0 < j → j < g → G (j - 1) < G j) → M0 = D0 ∧ M1 = D1 ∧ M2 = D2))
    (HPP : Hid (∀ i : Nat, hasF G g (i : Int) = !PP i))
    (HDW : Hid (∀ W ap cp aq cq, SrcC W ap (cntN PP n) cp (lf (selL PP X n)) → Src W aq (cntN PP n) (lf (selL PP Y n)) → Calls Tryd.prog 10 #[.int .i64 f, .slice ap (cntN PP n) cp, .slice aq (cntN PP n) cq, .int .i64 k] W (ListIB W D0 D1 D2))) :
    Calls Tryd.prog 18 #[.int .i64 f, .slice (some ⟨b, off, none⟩) n cap, .slice (some ⟨b2, off2, none⟩) n cap2, .int .i64 k, .slice a3 g cap3] w (ListIB w M0 M1 M2) := by
  have hd0 : ((n : Int) != n) = false := by simp
  have hdg : decide ((n : Int) < g) = false := decide_eq_false (by omega)
  have hdgn : decide (n < g) = false := decide_eq_false (by omega)
  have HC := Lib.hid hc
  have HC2 := Lib.hid hc2
  have HS3 := Lib.hid hs3
  have HCG := Lib.hid (src_cells hs3)
  have HB : Hid (∀ q, Below w.heap.size w (w.drewN q)) := Lib.hid fun q => below_drewN (Below.refl _ _) q
  have HX := Lib.hid (fun i h => @sel_yes PP X i h)
  have HY := Lib.hid (fun i h => @sel_yes PP Y i h)
  have HXN := Lib.hid (fun i h => @sel_no PP X i h)
  have HYN := Lib.hid (fun i h => @sel_no PP Y i h)
  have HST := Lib.hid (fun w => two_start w PP X Y)
  have HCL := Lib.hid (fun i => cntN_le PP i)
  obtain ⟨i0, hi, hz0, hz1, hz2⟩ := info_parts info3
  have HI := Lib.hid hi
  have HZ0 := Lib.hid hz0
  have HZ1 := Lib.hid hz1
  have HZ2 := Lib.hid hz2
  clear hi hz0 hz1 hz2 hc hc2 hs3
  go_enter Tryd.func18, Tryd.ntmps18
  go_wp2_with fail
  refine RC.out.mono ?_
  rintro e w' ⟨rfl, q0, rfl⟩
  clear RC
  go_wp2_with fail
  go_loopw [13] (fun iv wr => ∃ i q : Nat, iv = .int .i64 i ∧ i ≤ g ∧ Hid (∀ j, j < i → 0 ≤ G j ∧ G j ≤ (n : Int) - 1) ∧ Hid (∀ j, 0 < j → j < i → G (j - 1) < G j) ∧ wr = w.drewN q) (fun iv _ => g - (intOf iv).toNat)
  case atStart => exact ⟨0, q0, rfl, Nat.zero_le _, Lib.hid fun j hj => by omega, Lib.hid fun j _ hj => by omega, rfl⟩
  case round =>
    obtain ⟨i, q, rfl, hin, HA, HD, rfl⟩ := hrel
    by_cases h1 : i < g
    · have hd1 : decide ((i : Int) < g) = true := decide_eq_true (by omega)
      obtain ⟨b3, off3, rfl, c1⟩ := HCG.out i h1
      have hi0 : (0 : Int) ≤ (i : Int) := by omega
      have hi2 : (i : Int) < g := by omega
      have qn : IntKind.i64.wrap ((n : Int) - 1) = (n : Int) - 1 := IntWalk.i64_in _ (by omega)
      have q1 : IntKind.i64.wrap ((i : Int) - 1) = (i : Int) - 1 := IntWalk.i64_in _ (by omega)
      have HH : Hid (∀ p2, Calls Tryd.prog 46 #[.int .i64 (G i), .int .i64 0, .int .i64 ((n : Int) - 1)] (w.drewN (q + p2)) fun e w' => e = .returned (.bool (decide (0 ≤ G i ∧ G i ≤ (n : Int) - 1))) ∧ ∃ n, w' = w.drewN (q + n)) := Lib.hid fun p2 => (in_c (G i) 0 ((n : Int) - 1) (w.drewN (q + p2))).mono fun _ _ h => ⟨h.1, p2, h.2.symm⟩
      by_cases h2 : 0 ≤ G i ∧ G i ≤ (n : Int) - 1
      · rw [decide_eq_true h2] at HH
        by_cases h3 : 0 < i
        · have hd3 : decide ((0 : Int) < i) = true := decide_eq_true (by omega)
          have hd3n : decide (0 < i) = true := decide_eq_true h3
          have q2 : ((i : Int) - 1).toNat = i - 1 := by omega
          have q3 : (0 : Int) ≤ (i : Int) - 1 := by omega
          have q4 : (i : Int) - 1 < (g : Int) := by omega
          have r1 : (1 : Int) ≤ (i : Int) := by omega
          have r2 : (i : Int) < (g : Int) + 1 := by omega
          obtain ⟨b4, off4, he4, c2⟩ := HCG.out (i - 1) (by omega)
          obtain ⟨rfl, rfl⟩ : b3 = b4 ∧ off3 = off4 := by injection he4 with he4; injection he4 with e1 e2 e3; exact ⟨e1, e2⟩
          clear he4
          by_cases h4 : G i ≤ G (i - 1)
          · have hd4 : decide (G i ≤ G (i - 1)) = true := decide_eq_true h4
            obtain ⟨rfl, rfl, rfl⟩ := HOFF.out i h1 (.inr ⟨h3, h4⟩)
            clear HA HD HON HOFF HDW HCG h2 h4
            go_wp2
            go_quiet ((go_at_call 46; exact HH.out _))
            rename_i nq
            go_wp2
            go_ret3
            exact ⟨none, 0, rfl, Nat.le_refl _, .inl rfl, by rw [drew_add]; exact HB.out _⟩
          · have hd4 : decide (G i ≤ G (i - 1)) = false := decide_eq_false h4
            have HA2 : Hid (∀ j, j < i + 1 → 0 ≤ G j ∧ G j ≤ (n : Int) - 1) := Lib.hid fun j hj => by
              by_cases e : j < i
              · exact HA.out j e
              · obtain rfl : j = i := by omega
                exact h2
            have HD2 : Hid (∀ j, 0 < j → j < i + 1 → G (j - 1) < G j) := Lib.hid fun j hj0 hj => by
              by_cases e : j < i
              · exact HD.out j hj0 e
              · obtain rfl : j = i := by omega
                omega
            clear HA HD h2 h4
            go_wp2
            go_quiet ((go_at_call 46; exact HH.out _))
            go_wp2
            go_roundw
            case rel => exact ⟨i + 1, _, by go_num, by omega, HA2, HD2, rfl⟩
            case measure => simp [intOf]; omega
        · have hd3 : decide ((0 : Int) < i) = false := decide_eq_false (by omega)
          have hd3n : decide (0 < i) = false := decide_eq_false h3
          have HA2 : Hid (∀ j, j < i + 1 → 0 ≤ G j ∧ G j ≤ (n : Int) - 1) := Lib.hid fun j hj => by
            by_cases e : j < i
            · exact HA.out j e
            · obtain rfl : j = i := by omega
              exact h2
          have HD2 : Hid (∀ j, 0 < j → j < i + 1 → G (j - 1) < G j) := Lib.hid fun j hj0 hj => by omega
          clear HA HD h2
          go_wp2
          go_quiet ((go_at_call 46; exact HH.out _))
          go_wp2
          go_roundw
          case rel => exact ⟨i + 1, _, by go_num, by omega, HA2, HD2, rfl⟩
          case measure => simp [intOf]; omega
      · rw [decide_eq_false h2] at HH
        obtain ⟨rfl, rfl, rfl⟩ := HOFF.out i h1 (.inl h2)
        clear HA HD HON HOFF HDW HCG h2
        go_wp2
        go_quiet ((go_at_call 46; exact HH.out _))
        rename_i nq
        go_wp2
        go_ret3
        exact ⟨none, 0, rfl, Nat.le_refl _, .inl rfl, by rw [drew_add]; exact HB.out _⟩
    · have hd1 : decide ((i : Int) < g) = false := decide_eq_false (by omega)
      obtain rfl : i = g := by omega
      obtain ⟨rfl, rfl, rfl⟩ := HON.out HA.out HD.out
      have hb := HB.out q
      have HCq : Hid (∀ j, j < n → (w.drewN q).cell? ⟨b, off + j, none⟩ = some (.int .i64 (X j))) := Lib.hid fun j hj => HC.out j hj
      have HC2q : Hid (∀ j, j < n → (w.drewN q).cell? ⟨b2, off2 + j, none⟩ = some (.int .i64 (Y j))) := Lib.hid fun j hj => HC2.out j hj
      have HS3q : Hid (Src (w.drewN q) a3 i G) := Lib.hid (HS3.out.keep (below_drewN (Below.refl _ _) q))
      have HSTq := Lib.hid (HST.out (w.drewN q))
      have hltq : b < (w.drewN q).heap.size := hlt
      have hlt2q : b2 < (w.drewN q).heap.size := hlt2
      clear HON HOFF HA HD HCG HC HC2 HS3 HST HB hlt hlt2
      generalize w.drewN q = W0 at *
      have hW0 := hb.size
      go_wp2_with fail
      go_loopw [14, 15, 16] (fun v u iv wr2 => ∃ j : Nat, iv = .int .i64 j ∧ j ≤ n ∧ wr2.ownsRow W0.heap.size 3 1 v (cntN PP j) (xsF (lf (selL PP X j)) (cntN PP j)) ∧ wr2.ownsRow W0.heap.size 3 1 u (cntN PP j) (xsF (lf (selL PP Y j)) (cntN PP j)) ∧ Hid (∀ k, v.ownBlock = some k → u.ownBlock ≠ some k) ∧ Below W0.heap.size W0 wr2) (fun _ _ iv _ => n - (intOf iv).toNat)
      case atStart => exact ⟨0, rfl, Nat.zero_le _, HSTq.out.1, HSTq.out.2.1, Lib.hid HSTq.out.2.2.1, HSTq.out.2.2.2⟩
      case round =>
        clear HSTq
        obtain ⟨j, rfl, hjn, hv, hu, HD, hnx⟩ := hrel
        by_cases h2 : j < n
        · have hd2 : decide ((j : Int) < n) = true := decide_eq_true (by omega)
          have hs2 := hnx.size
          have hcl := HCL.out j
          have HH := Lib.hid (has_c a3 i cap3 G (j : Int) wr (by omega) (HS3q.out.keep hnx))
          have hpj := HPP.out j
          cases hB : PP j
          · rw [hpj, hB] at HH
            have e1 := HXN.out j hB
            have e2 := HYN.out j hB
            have HV : Hid (wr.ownsRow W0.heap.size 3 1 _ (cntN PP (j + 1)) (xsF (lf (selL PP X (j + 1))) (cntN PP (j + 1)))) := Lib.hid (by rw [e1.1, e1.2]; exact hv)
            have HU : Hid (wr.ownsRow W0.heap.size 3 1 _ (cntN PP (j + 1)) (xsF (lf (selL PP Y (j + 1))) (cntN PP (j + 1)))) := Lib.hid (by rw [e2.1, e2.2]; exact hu)
            clear hv hu e1 e2 hpj
            go_wp2_with fail
            refine HH.out.mono ?_
            rintro e w' ⟨rfl, rfl⟩
            go_wp2
            go_roundw
            case rel => exact ⟨j + 1, by go_num, by omega, HV.out, HU.out, HD, hnx⟩
            case measure => simp [intOf]; omega
          · rw [hpj, hB] at HH
            have e1 := Lib.hid (HX.out j hB)
            have e2 := Lib.hid (HY.out j hB)
            have c1 : wr.cell? ⟨b, off + j, none⟩ = some (.int .i64 (X j)) := (hnx.cell (p := ⟨b, off + j, none⟩) hltq).trans (HCq.out j h2)
            have hi0 : (0 : Int) ≤ (j : Int) := by omega
            have hi2 : (j : Int) < n := by omega
            have hge := own_ge hv
            clear hpj
            go_wp2_with fail
            refine HH.out.mono ?_
            rintro e w' ⟨rfl, rfl⟩
            go_wp2_with (at_builtin; refine wpList_append_own_at _ rfl _ _ 22 rfl W0.heap.size 3 i0 (.int .i64 0) 1 8 Tryd.underlying22 HI.out HZ0.out HZ1.out HZ2.out rfl (by decide) _ _ _ rfl (hv.alloc _) ⟨wr.heap.size, 0, none⟩ 1 1 [.int .i64 (X j)] rfl rfl ?c1 ?c2 ?c3 ?c4 ?c5 ?_)
            case c1 => exact cell_one_new _ _ _
            case c2 => intro u hu; simp at hu; subst hu; rfl
            case c3 => unfold maxLen; omega
            case c4 => omega
            case c5 => simp; omega
            intro v3 w3 hv3 hgrow _ hat
            obtain ⟨hu3, hd3, hd4⟩ := two_push hu HD.out hgrow hat
            have hb3 : Below W0.heap.size W0 w3 := (hnx.alloc hs2 _).grown hgrow (by simp; omega) hge
            rw [e1.out.1, e1.out.2] at hv3
            have hs3 := hb3.size
            have c2 : w3.cell? ⟨b2, off2 + j, none⟩ = some (.int .i64 (Y j)) := (hb3.cell (p := ⟨b2, off2 + j, none⟩) hlt2q).trans (HC2q.out j h2)
            have HV3 := Lib.hid hv3
            have HD4 := Lib.hid hd4
            have hge3 := own_ge hu3
            clear hv hu hgrow hat c1 hnx e1 hge hd3 HD hv3 hd4
            go_wp2_with (at_builtin; refine wpList_append_own_at _ rfl _ _ 22 rfl W0.heap.size 3 i0 (.int .i64 0) 1 8 Tryd.underlying22 HI.out HZ0.out HZ1.out HZ2.out rfl (by decide) _ _ _ rfl (hu3.alloc _) ⟨w3.heap.size, 0, none⟩ 1 1 [.int .i64 (Y j)] rfl rfl ?d1 ?d2 ?d3 ?d4 ?d5 ?_)
            case d1 => exact cell_one_new _ _ _
            case d2 => intro u hu; simp at hu; subst hu; rfl
            case d3 => unfold maxLen; omega
            case d4 => omega
            case d5 => simp; omega
            intro u5 w5 hu5 hgrow2 _ hat2
            obtain ⟨hv5, hd5, hd6⟩ := two_push HV3.out HD4.out hgrow2 hat2
            have hb5 : Below W0.heap.size W0 w5 := (hb3.alloc hs3 _).grown hgrow2 (by simp; omega) hge3
            rw [e2.out.1, e2.out.2] at hu5
            have HD6 := Lib.hid hd6
            clear hu3 hgrow2 hat2 HV3 HD4 c2 e2 hd5 hd6 hge3
            go_wp2
            go_roundw
            case rel => exact ⟨j + 1, by go_num, by omega, hv5, hu5, HD6, hb5⟩
            case measure => simp [intOf]; omega
        · have hd2 : decide ((j : Int) < n) = false := decide_eq_false (by omega)
          obtain rfl : j = n := by omega
          obtain ⟨ap, cp, rfl, hcp, hsp⟩ := src_of_owns2 hv
          obtain ⟨aq, cq, rfl, hcq, hsq⟩ := src_of_owns2 hu
          have HW := Lib.hid (HDW.out wr ap cp aq cq ⟨hcp, hsp⟩ hsq)
          have hbx := below_up hb hnx hW0
          clear hv hu hsp hsq hnx HDW
          go_wp2_with fail
          refine HW.out.mono ?_
          intro e w7 h7
          have HR := Lib.hid (h7.up hbx)
          obtain ⟨am, cm, rfl, _⟩ := h7
          go_wp2
          go_ret3
          exact HR.out
end Go.Proofs.YtangofjpnhhfeabDoor
namespace Go.Proofs.YtangofjpnhhfeabDoor
open Go.RowKit
set_option maxRecDepth 100000 in
set_option maxHeartbeats 800000 in
theorem sDecodeGaps (f : Int) (a : Option Addr) (xs : List Int) (cap : Nat) (a2 : Option Addr) (ys : List Int) (cap2 : Nat) (k : Int) (a3 : Option Addr) (gone : List Int) (cap3 : Nat) (w : World) (hn : xs.length ≤ 1048576) (_ : ys.length ≤ 1048576) (_ : gone.length ≤ 1048576) (hs : SrcC w a xs.length cap (lf xs)) (hs2 : Src w a2 ys.length (lf ys)) (hs3 : Src w a3 gone.length (lf gone)) : Calls Tryd.prog 18 #[.int .i64 f, .slice a xs.length cap, .slice a2 ys.length cap2, .int .i64 k, .slice a3 gone.length cap3] w (ListIB w (mDecodeGaps0 f xs ys k gone) (mDecodeGaps1 f xs ys k gone) (mDecodeGaps2 f xs ys k gone)) := by
  have R := Lib.hid (code_c f a xs cap k w hn hs)
  have HB : Hid (∀ q, Below w.heap.size w (w.drewN q)) := Lib.hid fun q => below_drewN (Below.refl _ _) q
  by_cases h1 : CodeOk f xs k
  · rw [code_iff.2 h1] at R
    by_cases h2 : ys.length = xs.length
    · by_cases h3 : gone.length ≤ xs.length
      · obtain ⟨hf, x1, x10, _, _⟩ := code_ok h1
        obtain ⟨b, off, rfl, hlt, hc⟩ : ∃ b off, a = some ⟨b, off, none⟩ ∧ b < w.heap.size ∧ ∀ j, j < xs.length → w.cell? ⟨b, off + j, none⟩ = some (.int .i64 (lf xs j)) := by
          rcases hs.src with hq | hq
          · omega
          · exact hq
        obtain ⟨b2, off2, rfl, hlt2, hc2⟩ : ∃ b off, a2 = some ⟨b, off, none⟩ ∧ b < w.heap.size ∧ ∀ j, j < ys.length → w.cell? ⟨b, off + j, none⟩ = some (.int .i64 (lf ys j)) := by
          rcases hs2 with hq | hq
          · omega
          · exact hq
        rw [h2] at hc2 ⊢
        have HDW : Hid (∀ W ap cp aq cq, SrcC W ap (cntN (fun i : Nat => !hasL gone (i : Int)) xs.length) cp (lf (selL (fun i : Nat => !hasL gone (i : Int)) (lf xs) xs.length)) → Src W aq (cntN (fun i : Nat => !hasL gone (i : Int)) xs.length) (lf (selL (fun i : Nat => !hasL gone (i : Int)) (lf ys) xs.length)) → Calls Tryd.prog 10 #[.int .i64 f, .slice ap (cntN (fun i : Nat => !hasL gone (i : Int)) xs.length) cp, .slice aq (cntN (fun i : Nat => !hasL gone (i : Int)) xs.length) cq, .int .i64 k] W (ListIB W (mDecodeWord0 f (leftL gone xs xs.length) (leftL gone ys xs.length) k) (mDecodeWord1 f (leftL gone xs xs.length) (leftL gone ys xs.length) k) (mDecodeWord2 f (leftL gone xs xs.length) (leftL gone ys xs.length) k))) := Lib.hid fun W ap cp aq cq p1 p2 => by
          have e1 := selL_len (fun i : Nat => !hasL gone (i : Int)) (lf xs) xs.length
          have e2 := selL_len (fun i : Nat => !hasL gone (i : Int)) (lf ys) xs.length
          have hl := cntN_le (fun i : Nat => !hasL gone (i : Int)) xs.length
          have := sDecodeWord f ap (leftL gone xs xs.length) cp aq (leftL gone ys xs.length) cq k W (by unfold leftL; omega) (by unfold leftL; omega) (by unfold leftL; rw [e1]; exact p1) (by unfold leftL; rw [e2]; exact p2)
          rw [show (leftL gone xs xs.length).length = _ from e1, show (leftL gone ys xs.length).length = _ from e2] at this
          exact this
        refine gaps_c f b off xs.length cap (lf xs) b2 off2 cap2 (lf ys) k a3 gone.length cap3 (lf gone) w (fun i : Nat => !hasL gone (i : Int)) _ _ _ _ _ _ x1 x10 h3 hs.1 hlt hc hlt2 hc2 hs3 R (Lib.hid fun i hi he => gaps_off fun hG => ?_) (Lib.hid fun hA hD => gaps_on ⟨h1, h2, h3, fun j hj => by have := hA j hj; omega, fun j hj => hD (j + 1) (by omega) hj⟩) (Lib.hid fun i => by show hasL gone i = _; simp) HDW
        rcases he with he | he
        · have := hG.2.2.2.1 i hi
          exact he (by omega)
        · have := hG.2.2.2.2 (i - 1) (by omega)
          rw [show i - 1 + 1 = i by omega] at this
          omega
      · obtain ⟨m0, m1, m2⟩ := gaps_off (f := f) (xs := xs) (ys := ys) (k := k) (gone := gone) fun hG => h3 hG.2.2.1
        rw [m0, m1, m2]
        have hd2 : ((ys.length : Int) != xs.length) = false := by rw [bne_eq_false_iff_eq]; omega
        have hd3 : decide ((xs.length : Int) < gone.length) = true := decide_eq_true (by omega)
        have hd3n : decide (xs.length < gone.length) = true := decide_eq_true (by omega)
        clear hs hs2 hs3 h1 h2 h3 m0 m1 m2
        generalize ys.length = ny at *
        generalize xs.length = nx at *
        generalize gone.length = ng at *
        go_enter Tryd.func18, Tryd.ntmps18
        go_wp2_with fail
        refine R.out.mono ?_
        rintro e w' ⟨rfl, q, rfl⟩
        go_wp2
        go_ret3
        exact ⟨none, 0, rfl, Nat.le_refl _, .inl rfl, HB.out q⟩
    · obtain ⟨m0, m1, m2⟩ := gaps_off (f := f) (xs := xs) (ys := ys) (k := k) (gone := gone) fun hG => h2 hG.2.1
      rw [m0, m1, m2]
      have hd2 : ((ys.length : Int) != xs.length) = true := by rw [bne_iff_ne]; omega
      clear hs hs2 hs3 h1 h2 m0 m1 m2
      generalize ys.length = ny at *
      generalize xs.length = nx at *
      generalize gone.length = ng at *
      go_enter Tryd.func18, Tryd.ntmps18
      go_wp2_with fail
      refine R.out.mono ?_
      rintro e w' ⟨rfl, q, rfl⟩
      go_wp2
      go_ret3
      exact ⟨none, 0, rfl, Nat.le_refl _, .inl rfl, HB.out q⟩
  · rw [code_not.2 h1] at R
    obtain ⟨m0, m1, m2⟩ := gaps_off (f := f) (xs := xs) (ys := ys) (k := k) (gone := gone) fun hG => h1 hG.1
    rw [m0, m1, m2]
    clear hs hs2 hs3 h1 m0 m1 m2
    go_enter Tryd.func18, Tryd.ntmps18
    go_wp2_with fail
    refine R.out.mono ?_
    rintro e w' ⟨rfl, q, rfl⟩
    go_wp2
    go_ret3
    exact ⟨none, 0, rfl, Nat.le_refl _, .inl rfl, HB.out q⟩
end Go.Proofs.YtangofjpnhhfeabDoor
namespace Go.Proofs.YtangofjpnhhfeabDoor
open Go.RowKit
/-- Indices in ascending order, within 0 .. n - 1. -/
def IdxOk (g : List Int) (n : Nat) : Prop := (∀ j, j < g.length → 0 ≤ lf g j ∧ lf g j < (n : Int)) ∧ ∀ j, j + 1 < g.length → lf g j < lf g (j + 1)
open Classical in
noncomputable def mIdx (g : List Int) (n : Nat) : Bool := decide (IdxOk g n)
theorem idx_len {g : List Int} {n : Nat} (h : IdxOk g n) : g.length ≤ n := by
  have hj : ∀ j, j < g.length → (j : Int) ≤ lf g j := by
    intro j
    induction j with
    | zero => intro hj; exact (h.1 0 hj).1
    | succ j ih =>
      intro hj
      have h1 := ih (by omega)
      have h2 := h.2 j hj
      omega
  by_cases hz : g.length = 0
  · omega
  · have h1 := hj (g.length - 1) (by omega)
    have h2 := (h.1 (g.length - 1) (by omega)).2
    omega
def lastF (G : Nat → Int) (i : Nat) : Int := if i = 0 then -1 else G (i - 1)
set_option maxRecDepth 100000 in
set_option maxHeartbeats 1600000 in
theorem areIndices_some (b off m cap n : Nat) (G : Nat → Int) (w : World) (B : Bool) (hn : m ≤ 1048576) (hc : ∀ j, j < m → w.cell? ⟨b, off + j, none⟩ = some (.int .i64 (G j)))
    (HY : Hid ((∀ j, j < m → lastF G j < G j ∧ G j < (n : Int)) → B = true)) (HN : Hid (∀ i, i < m → (G i ≤ lastF G i ∨ (n : Int) ≤ G i) → B = false)) :
    Calls Tryd.prog 49 #[.slice (some ⟨b, off, none⟩) m cap, .int .i64 n] w (SameB w B) := by
  have HC := Lib.hid hc
  have HL0 : Hid (lastF G 0 = -1) := Lib.hid rfl
  have HLS : Hid (∀ i, lastF G (i + 1) = G i) := Lib.hid fun i => by unfold lastF; rw [if_neg (by omega), Nat.add_sub_cancel]
  clear hc
  generalize lastF G = LF at *
  go_enter Tryd.func49, Tryd.ntmps49
  go_wp2_with fail
  go_loop [5, 10] (fun lv iv => ∃ i : Nat, iv = .int .i64 i ∧ lv = .int .i64 (LF i) ∧ i ≤ m ∧ Hid (∀ j, j < i → LF j < G j ∧ G j < (n : Int))) (fun _ iv => m - (intOf iv).toNat)
  case atStart => exact ⟨0, rfl, by rw [HL0.out], Nat.zero_le _, Lib.hid fun j hj => by omega⟩
  case round =>
    obtain ⟨i, rfl, rfl, hi, HP⟩ := hrel
    by_cases h1 : i < m
    · have hd1 : decide ((i : Int) < m) = true := decide_eq_true (by omega)
      have c1 := HC.out i h1
      have hi2 : (i : Int) < m := by omega
      by_cases h2 : G i ≤ LF i
      · have hd2 : decide (G i ≤ LF i) = true := decide_eq_true h2
        have HR := Lib.hid (HN.out i h1 (.inl h2))
        clear h2
        go_wp2
        go_ret
        exact ⟨by rw [HR.out]; rfl, rfl⟩
      · have hd2 : decide (G i ≤ LF i) = false := decide_eq_false h2
        by_cases h3 : (n : Int) ≤ G i
        · have hd3 : decide ((n : Int) ≤ G i) = true := decide_eq_true h3
          have HR := Lib.hid (HN.out i h1 (.inr h3))
          clear h2 h3
          go_wp2
          go_ret
          exact ⟨by rw [HR.out]; rfl, rfl⟩
        · have hd3 : decide ((n : Int) ≤ G i) = false := decide_eq_false h3
          have HP2 : Hid (∀ j, j < i + 1 → LF j < G j ∧ G j < (n : Int)) := Lib.hid fun j hj => by
            by_cases e : j < i
            · exact HP.out j e
            · obtain rfl : j = i := by omega
              omega
          have HE := Lib.hid (HLS.out i).symm
          clear h2 h3 HP
          go_wp2
          go_round
          case rel => exact ⟨i + 1, by go_num, vint HE.out, by omega, HP2⟩
          case measure => simp [intOf]; omega
    · have hd1 : decide ((i : Int) < m) = false := decide_eq_false (by omega)
      obtain rfl : i = m := by omega
      have HR := Lib.hid (HY.out HP.out)
      clear HP
      go_wp2
      go_ret
      exact ⟨by rw [HR.out]; rfl, rfl⟩
theorem areIndices_none (a : Option Addr) (cap n : Nat) (w : World) : Calls Tryd.prog 49 #[.slice a 0 cap, .int .i64 n] w (SameB w true) := by
  go_enter Tryd.func49, Tryd.ntmps49
  go_wp2
  refine wp_loop_rounds 1 ?_
  rw [rounds_succ]
  go_wp2
  go_ret
  exact ⟨rfl, rfl⟩
theorem areIndices_c (a : Option Addr) (g : List Int) (cap n : Nat) (w : World) (hn : g.length ≤ 1048576) (hs : Src w a g.length (lf g)) : Calls Tryd.prog 49 #[.slice a g.length cap, .int .i64 n] w (SameB w (mIdx g n)) := by
  rcases hs with h | ⟨b, off, rfl, hlt, hc⟩
  · have e : mIdx g n = true := by
      unfold mIdx
      simp only [decide_eq_true_eq]
      exact ⟨fun j hj => by omega, fun j hj => by omega⟩
    rw [e, h]
    exact areIndices_none a cap n w
  · refine areIndices_some b off g.length cap n (lf g) w (mIdx g n) hn hc (Lib.hid fun h => ?_) (Lib.hid fun i hi hbad => ?_)
    · unfold mIdx
      simp only [decide_eq_true_eq]
      have h0 : ∀ j, j < g.length → 0 ≤ lf g j := by
        intro j
        induction j with
        | zero => intro hj; have := (h 0 hj).1; unfold lastF at this; rw [if_pos rfl] at this; omega
        | succ j ih =>
          intro hj
          have h1 := ih (by omega)
          have h2 := (h (j + 1) hj).1
          unfold lastF at h2
          rw [if_neg (by omega), Nat.add_sub_cancel] at h2
          omega
      refine ⟨fun j hj => ⟨h0 j hj, (h j hj).2⟩, fun j hj => ?_⟩
      have h2 := (h (j + 1) hj).1
      unfold lastF at h2
      rwa [if_neg (by omega), Nat.add_sub_cancel] at h2
    · unfold mIdx
      simp only [decide_eq_false_iff_not]
      intro hok
      have h1 := hok.1 i hi
      rcases hbad with h | h
      · unfold lastF at h
        by_cases hz : i = 0
        · rw [if_pos hz] at h; omega
        · rw [if_neg hz] at h
          have := hok.2 (i - 1) (by omega)
          rw [show i - 1 + 1 = i by omega] at this
          omega
      · omega
set_option maxRecDepth 100000 in
set_option maxHeartbeats 3200000 in
theorem without_some (b off n cap : Nat) (X : Nat → Int) (D : Nat → Bool) (v2 : Value) (w : World) (hn : n ≤ 4096) (hlt : b < w.heap.size) (hc : ∀ j, j < n → w.cell? ⟨b, off + j, none⟩ = some (.int .i64 (X j)))
    (HH : Hid (∀ (i : Nat) W, i < n → Below w.heap.size w W → Calls Tryd.prog 79 #[v2, .int .i64 i] W (SameB W (!D i)))) :
    Calls Tryd.prog 50 #[.slice (some ⟨b, off, none⟩) n cap, v2] w (OwnsL w (selL D X n)) := by
  have HF : Hid (∀ v W, W.ownsRow w.heap.size 3 1 v (cntN D n) (xsF (lf (selL D X n)) (cntN D n)) → Below w.heap.size w W → OwnsL w (selL D X n) (.returned v) W) := Lib.hid fun v W ho hb => owns_to (w := w) ho (selL_len _ _ _).symm (fun j _ => rfl) hb
  have HX := Lib.hid (fun i h => @sel_yes D X i h)
  have HXN := Lib.hid (fun i h => @sel_no D X i h)
  have HCL := Lib.hid (fun i => cntN_le D i)
  have HC := Lib.hid hc
  have OE := Lib.hid (own_nil0 w (lf (selL D X 0)))
  obtain ⟨i0, hi, hz0, hz1, hz2⟩ := info_parts info3
  have HI := Lib.hid hi
  have HZ0 := Lib.hid hz0
  have HZ1 := Lib.hid hz1
  have HZ2 := Lib.hid hz2
  clear hi hz0 hz1 hz2 hc
  go_enter Tryd.func50, Tryd.ntmps50
  go_wp2_with fail
  go_loopw [5, 10] (fun v iv wr => ∃ i : Nat, iv = .int .i64 i ∧ i ≤ n ∧ wr.ownsRow w.heap.size 3 1 v (cntN D i) (xsF (lf (selL D X i)) (cntN D i)) ∧ Below w.heap.size w wr) (fun _ iv _ => n - (intOf iv).toNat)
  case atStart => exact ⟨0, rfl, Nat.zero_le _, OE.out, Below.refl _ _⟩
  case round =>
    clear OE
    obtain ⟨i, rfl, hin, hown, hnx⟩ := hrel
    have hcl := HCL.out i
    have hsz := hnx.size
    by_cases h1 : i < n
    · have hd1 : decide ((i : Int) < n) = true := decide_eq_true (by omega)
      have c1 : wr.cell? ⟨b, off + i, none⟩ = some (.int .i64 (X i)) := (hnx.cell (p := ⟨b, off + i, none⟩) hlt).trans (HC.out i h1)
      have hi2 : (i : Int) < n := by omega
      have HHI := Lib.hid (HH.out i wr h1 hnx)
      cases hB : D i
      · rw [hB] at HHI
        have e1 := HXN.out i hB
        have HV : Hid (wr.ownsRow w.heap.size 3 1 _ (cntN D (i + 1)) (xsF (lf (selL D X (i + 1))) (cntN D (i + 1)))) := Lib.hid (by rw [e1.1, e1.2]; exact hown)
        have HNX := Lib.hid hnx
        clear hown e1 hnx
        go_wp2_with fail
        refine HHI.out.mono ?_
        rintro e w' ⟨rfl, rfl⟩
        go_wp2
        go_roundw
        case rel => exact ⟨i + 1, by go_num, by omega, HV.out, HNX.out⟩
        case measure => simp [intOf]; omega
      · rw [hB] at HHI
        have e1 := Lib.hid (HX.out i hB)
        have hge := own_ge hown
        go_wp2_with fail
        refine HHI.out.mono ?_
        rintro e w' ⟨rfl, rfl⟩
        go_wp2_with (at_builtin; refine wpList_append_own_at _ rfl _ _ 22 rfl w.heap.size 3 i0 (.int .i64 0) 1 8 Tryd.underlying22 HI.out HZ0.out HZ1.out HZ2.out rfl (by decide) _ _ _ rfl (hown.alloc _) ⟨wr.heap.size, 0, none⟩ 1 1 [.int .i64 (X i)] rfl rfl ?c1 ?c2 ?c3 ?c4 ?c5 ?_)
        case c1 => exact cell_one_new _ _ _
        case c2 => intro u hu; simp at hu; subst hu; rfl
        case c3 => unfold maxLen; omega
        case c4 => omega
        case c5 => simp; omega
        intro v' w6 hown' hgrow _ hat
        have hbel : Below w.heap.size w w6 := (hnx.alloc hsz _).grown hgrow (by simp; omega) hge
        rw [e1.out.1, e1.out.2] at hown'
        clear hgrow hown hat hnx
        go_wp2
        go_roundw
        case rel => exact ⟨i + 1, by go_num, by omega, hown', hbel⟩
        case measure => simp [intOf]; omega
    · have hd1 : decide ((i : Int) < n) = false := decide_eq_false (by omega)
      obtain rfl : i = n := by omega
      have HR := Lib.hid (HF.out _ wr hown hnx)
      clear hown hnx
      go_wp2
      go_ret
      exact HR.out
theorem without_c (a : Option Addr) (l : List Int) (cap : Nat) (a2 : Option Addr) (g : List Int) (cap2 : Nat) (w : World) (l1 : 1 ≤ l.length) (hn : l.length ≤ 4096) (hn2 : g.length ≤ 1048576) (hs : Src w a l.length (lf l)) (hs2 : Src w a2 g.length (lf g)) : Calls Tryd.prog 50 #[.slice a l.length cap, .slice a2 g.length cap2] w (OwnsL w (leftL g l l.length)) := by
  rcases hs with h | ⟨b, off, rfl, hlt, hc⟩
  · omega
  · refine without_some b off l.length cap (lf l) (fun i : Nat => !hasL g (i : Int)) (.slice a2 g.length cap2) w hn hlt hc (Lib.hid fun i W _ hb => ?_)
    have h := contains_c a2 g.length cap2 (lf g) (i : Int) W hn2 (hs2.keep hb)
    rw [hasF_lf] at h
    rwa [show (!(!hasL g (i : Int))) = hasL g (i : Int) by cases hasL g (i : Int) <;> rfl]
theorem OwnsL.slice {w w' : World} {l : List Int} {e : Ending} (h : OwnsL w l e w') : ∃ a c, e = .returned (.slice a l.length c) ∧ SrcC w' a l.length c (lf l) ∧ Below w.heap.size w w' := by
  obtain ⟨a, c, h1, h2, h3⟩ := h.m
  exact ⟨a, c, h1, h2.srcC, h3⟩
theorem OwnIB.up {u w w' : World} {l : List Int} {d : Int} {b : Bool} {e : Ending} (h : OwnIB w l d b e w') (hb : Below u.heap.size u w) : OwnIB u l d b e w' := by
  obtain ⟨a, c, h1, h2, h3⟩ := h
  exact ⟨a, c, h1, h2.low hb.size, below_up hb h3 hb.size⟩
theorem left_len (g l : List Int) (n : Nat) : (leftL g l n).length ≤ n := by
  unfold leftL
  rw [selL_len]
  exact cntN_le _ _
set_option maxRecDepth 100000 in
set_option maxHeartbeats 1600000 in
theorem iDecodeGaps (f : Int) (a : Option Addr) (xs : List Int) (cap : Nat) (a2 : Option Addr) (ys : List Int) (cap2 : Nat) (k : Int) (a3 : Option Addr) (gone : List Int) (cap3 : Nat) (w : World) (hn : xs.length ≤ 1048576) (_ : ys.length ≤ 1048576) (hn3 : gone.length ≤ 1048576) (hs : SrcC w a xs.length cap (lf xs)) (hs2 : SrcC w a2 ys.length cap2 (lf ys)) (hs3 : SrcC w a3 gone.length cap3 (lf gone)) (ht : Tab w) (hg : Ety w) : Calls Tryd.prog 19 #[.int .i64 f, .slice a xs.length cap, .slice a2 ys.length cap2, .int .i64 k, .slice a3 gone.length cap3] w (OwnIB w (mDecodeGaps0 f xs ys k gone) (mDecodeGaps1 f xs ys k gone) (mDecodeGaps2 f xs ys k gone)) := by
  have HC := Lib.hid (isCode_c f a xs cap k w hn hs ht)
  have HOFF : ¬ GapsOk f xs ys k gone → Hid (OwnIB w (mDecodeGaps0 f xs ys k gone) (mDecodeGaps1 f xs ys k gone) (mDecodeGaps2 f xs ys k gone) (.returned (.tuple #[.slice none 0 0, .int .i64 0, .bool false])) w) := fun h => Lib.hid (by
    unfold mDecodeGaps0 mDecodeGaps1 mDecodeGaps2
    rw [if_neg h, if_neg h, if_neg h]
    exact ⟨none, 0, rfl, OwnA.nil rfl, Below.refl _ _⟩)
  by_cases h1 : CodeOk f xs k
  · rw [code_iff.2 h1] at HC
    obtain ⟨hf, x1, x10, k1, k10⟩ := code_ok h1
    by_cases h2 : ys.length = xs.length
    · have e2 : ((ys.length : Int) != xs.length) = false := by simp [h2]
      have HI := Lib.hid (areIndices_c a3 gone cap3 xs.length w hn3 hs3.2)
      by_cases h3 : IdxOk gone xs.length
      · have hgap : GapsOk f xs ys k gone := ⟨h1, h2, idx_len h3, h3.1, h3.2⟩
        rw [show mIdx gone xs.length = true by unfold mIdx; simp [h3]] at HI
        have HW1 : Hid (Calls Tryd.prog 50 #[.slice a xs.length cap, .slice a3 gone.length cap3] w (fun e w' => ∃ b c, e = .returned (.slice b (leftL gone xs xs.length).length c) ∧ SrcC w' b (leftL gone xs xs.length).length c (lf (leftL gone xs xs.length)) ∧ Below w.heap.size w w')) := Lib.hid ((without_c a xs cap a3 gone cap3 w x1 (by omega) hn3 hs.2 hs3.2).mono fun _ _ h => h.slice)
        have HW2 : Hid (∀ W, Below w.heap.size w W → Calls Tryd.prog 50 #[.slice a2 xs.length cap2, .slice a3 gone.length cap3] W (fun e w' => ∃ b c, e = .returned (.slice b (leftL gone ys xs.length).length c) ∧ SrcC w' b (leftL gone ys xs.length).length c (lf (leftL gone ys xs.length)) ∧ Below W.heap.size W w')) := Lib.hid fun W hb => by
          have := (without_c a2 ys cap2 a3 gone cap3 W (by omega) (by omega) hn3 (hs2.keep hb).2 (hs3.keep hb).2).mono fun _ _ h => h.slice
          rwa [h2] at this
        have HD : Hid (∀ (b1 c1 : _) (b2 : Option Addr) (c2 : Nat) W, Below w.heap.size w W → SrcC W b1 (leftL gone xs xs.length).length c1 (lf (leftL gone xs xs.length)) → SrcC W b2 (leftL gone ys xs.length).length c2 (lf (leftL gone ys xs.length)) → Calls Tryd.prog 12 #[.int .i64 f, .slice b1 (leftL gone xs xs.length).length c1, .slice b2 (leftL gone ys xs.length).length c2, .int .i64 k] W (OwnIB w (mDecodeGaps0 f xs ys k gone) (mDecodeGaps1 f xs ys k gone) (mDecodeGaps2 f xs ys k gone))) := Lib.hid fun b1 c1 b2 c2 W hb s1 s2 => by
          unfold mDecodeGaps0 mDecodeGaps1 mDecodeGaps2
          rw [if_pos hgap, if_pos hgap, if_pos hgap]
          have l1 := left_len gone xs xs.length
          have l2 := left_len gone ys xs.length
          exact (iDecodeWord f b1 (leftL gone xs xs.length) c1 b2 (leftL gone ys xs.length) c2 k W (by omega) (by omega) s1 s2 (ht.below hb) (hg.below hb)).mono fun _ _ h => h.up hb
        have e3 : decide (ys.length = xs.length) = true := decide_eq_true h2
        rw [h2]
        clear hs hs2 hs3 ht hg h1 h3 hgap HOFF h2 e2 e3
        have e2 : ((xs.length : Int) != xs.length) = false := by simp
        generalize mDecodeGaps0 f xs ys k gone = R0 at *
        generalize mDecodeGaps1 f xs ys k gone = R1 at *
        generalize mDecodeGaps2 f xs ys k gone = R2 at *
        generalize leftL gone xs xs.length = V1 at *
        generalize leftL gone ys xs.length = V2 at *
        go_enter Tryd.func19, Tryd.ntmps19
        go_wp2_with fail
        refine HC.out.mono ?_
        rintro e w' ⟨rfl, rfl⟩
        go_wp2_with fail
        refine HI.out.mono ?_
        rintro e w' ⟨rfl, rfl⟩
        go_wp2_with fail
        refine HW1.out.mono ?_
        rintro e w1 ⟨b1, c1, rfl, s1, hb1⟩
        have HW3 := Lib.hid (HW2.out w1 hb1)
        have HS1 := Lib.hid s1
        have HB1 := Lib.hid hb1
        clear s1 hb1
        go_wp2_with fail
        refine HW3.out.mono ?_
        rintro e w2 ⟨b2, c2, rfl, s2, hb2⟩
        have HDD := Lib.hid (HD.out b1 c1 b2 c2 w2 (below_up HB1.out hb2 HB1.out.size) (HS1.out.keep hb2) s2)
        clear s2 hb2 HD
        go_wp2_with fail
        refine HDD.out.mono ?_
        intro e w3 h3
        have HR := Lib.hid h3
        obtain ⟨a4, c4, rfl, _⟩ := h3
        go_wp2
        go_ret3
        exact HR.out
      · rw [show mIdx gone xs.length = false by unfold mIdx; simp [h3]] at HI
        have HR := HOFF fun h => h3 ⟨h.2.2.2.1, h.2.2.2.2⟩
        have e3 : decide (ys.length = xs.length) = true := decide_eq_true h2
        clear hs hs2 hs3 ht hg h1 h3 HOFF h2
        generalize ys.length = M at *
        go_enter Tryd.func19, Tryd.ntmps19
        go_wp2_with fail
        refine HC.out.mono ?_
        rintro e w' ⟨rfl, rfl⟩
        go_wp2_with fail
        refine HI.out.mono ?_
        rintro e w' ⟨rfl, rfl⟩
        go_wp2
        go_ret3
        exact HR.out
    · have e2 : ((ys.length : Int) != xs.length) = true := by simp; omega
      have e3 : decide (ys.length = xs.length) = false := decide_eq_false h2
      have HR := HOFF fun h => h2 h.2.1
      clear hs hs2 hs3 ht hg h1 HOFF h2
      generalize ys.length = M at *
      go_enter Tryd.func19, Tryd.ntmps19
      go_wp2_with fail
      refine HC.out.mono ?_
      rintro e w' ⟨rfl, rfl⟩
      go_wp2
      go_ret3
      exact HR.out
  · rw [code_not.2 h1] at HC
    have HR := HOFF fun h => h1 h.1
    clear hs hs2 hs3 ht hg h1 HOFF
    go_enter Tryd.func19, Tryd.ntmps19
    go_wp2_with fail
    refine HC.out.mono ?_
    rintro e w' ⟨rfl, rfl⟩
    go_wp2
    go_ret3
    exact HR.out
theorem len_mDecodeGaps0 (f : Int) (xs ys : List Int) (k : Int) (gone : List Int) (n : xs.length ≤ 1048576) (_n2 : ys.length ≤ 1048576) (_n3 : gone.length ≤ 1048576) : (mDecodeGaps0 f xs ys k gone).length ≤ 1048576 := by
  unfold mDecodeGaps0
  split
  · exact len_dec (by have := left_len gone xs xs.length; omega)
  · simp
end Go.Proofs.YtangofjpnhhfeabDoor
namespace Go.Proofs.YtangofjpnhhfeabDoor
open Go.RowKit
def ListIBU (w : World) (l : List Int) (d : Int) (b : Bool) (e : Ending) (w' : World) : Prop := ∃ a cap, e = .returned (.tuple #[.slice a l.length cap, .int .i64 d, .bool b]) ∧ Src w' a l.length (lf l) ∧ Below w.heap.size w w'
theorem ListIB.u {w w' : World} {l : List Int} {d : Int} {b : Bool} {e : Ending} (h : ListIB w l d b e w') : ListIBU w l d b e w' := by
  obtain ⟨a, c, h1, _, h3, h4⟩ := h
  exact ⟨a, c, h1, h3, h4⟩
theorem sDecodeWordU (f : Int) (a : Option Addr) (xs : List Int) (cap : Nat) (a2 : Option Addr) (ys : List Int) (cap2 : Nat) (k : Int) (w : World) (hn : xs.length ≤ 1048576) (hn2 : ys.length ≤ 1048576) (hs : SrcC w a xs.length cap (lf xs)) (hs2 : SrcC w a2 ys.length cap2 (lf ys)) : Calls Tryd.prog 10 #[.int .i64 f, .slice a xs.length cap, .slice a2 ys.length cap2, .int .i64 k] w (ListIBU w (mDecodeWord0 f xs ys k) (mDecodeWord1 f xs ys k) (mDecodeWord2 f xs ys k)) := (sDecodeWord f a xs cap a2 ys cap2 k w hn hn2 hs hs2.2).mono fun _ _ h => h.u
theorem iDecodeWordU (f : Int) (a : Option Addr) (xs : List Int) (cap : Nat) (a2 : Option Addr) (ys : List Int) (cap2 : Nat) (k : Int) (w : World) (hn : xs.length ≤ 1048576) (hn2 : ys.length ≤ 1048576) (hs : SrcC w a xs.length cap (lf xs)) (hs2 : SrcC w a2 ys.length cap2 (lf ys)) (ht : Tab w) (hg : Ety w) : Calls Tryd.prog 12 #[.int .i64 f, .slice a xs.length cap, .slice a2 ys.length cap2, .int .i64 k] w (OwnIB w (mDecodeWord0 f xs ys k) (mDecodeWord1 f xs ys k) (mDecodeWord2 f xs ys k)) := iDecodeWord f a xs cap a2 ys cap2 k w hn hn2 hs hs2 ht hg
theorem sBlameU (f : Int) (a : Option Addr) (xs : List Int) (cap : Nat) (a2 : Option Addr) (ys : List Int) (cap2 : Nat) (k : Int) (w : World) (hn : xs.length ≤ 1048576) (hn2 : ys.length ≤ 1048576) (hs : SrcC w a xs.length cap (lf xs)) (hs2 : SrcC w a2 ys.length cap2 (lf ys)) : Calls Tryd.prog 16 #[.int .i64 f, .slice a xs.length cap, .slice a2 ys.length cap2, .int .i64 k] w (ListL w (mBlame f xs ys k)) := sBlame f a xs cap a2 ys cap2 k w hn hn2 hs hs2.2
theorem iBlameU (f : Int) (a : Option Addr) (xs : List Int) (cap : Nat) (a2 : Option Addr) (ys : List Int) (cap2 : Nat) (k : Int) (w : World) (hn : xs.length ≤ 1048576) (hn2 : ys.length ≤ 1048576) (hs : SrcC w a xs.length cap (lf xs)) (hs2 : SrcC w a2 ys.length cap2 (lf ys)) (ht : Tab w) (hg : Ety w) : Calls Tryd.prog 17 #[.int .i64 f, .slice a xs.length cap, .slice a2 ys.length cap2, .int .i64 k] w (OwnLM w (mBlame f xs ys k)) := iBlame f a xs cap a2 ys cap2 k w hn hn2 hs hs2 ht hg
theorem sDecodeGapsU (f : Int) (a : Option Addr) (xs : List Int) (cap : Nat) (a2 : Option Addr) (ys : List Int) (cap2 : Nat) (k : Int) (a3 : Option Addr) (gone : List Int) (cap3 : Nat) (w : World) (hn : xs.length ≤ 1048576) (hn2 : ys.length ≤ 1048576) (hn3 : gone.length ≤ 1048576) (hs : SrcC w a xs.length cap (lf xs)) (hs2 : SrcC w a2 ys.length cap2 (lf ys)) (hs3 : SrcC w a3 gone.length cap3 (lf gone)) : Calls Tryd.prog 18 #[.int .i64 f, .slice a xs.length cap, .slice a2 ys.length cap2, .int .i64 k, .slice a3 gone.length cap3] w (ListIBU w (mDecodeGaps0 f xs ys k gone) (mDecodeGaps1 f xs ys k gone) (mDecodeGaps2 f xs ys k gone)) := (sDecodeGaps f a xs cap a2 ys cap2 k a3 gone cap3 w hn hn2 hn3 hs hs2.2 hs3.2).mono fun _ _ h => h.u
theorem iDecodeGapsU (f : Int) (a : Option Addr) (xs : List Int) (cap : Nat) (a2 : Option Addr) (ys : List Int) (cap2 : Nat) (k : Int) (a3 : Option Addr) (gone : List Int) (cap3 : Nat) (w : World) (hn : xs.length ≤ 1048576) (hn2 : ys.length ≤ 1048576) (hn3 : gone.length ≤ 1048576) (hs : SrcC w a xs.length cap (lf xs)) (hs2 : SrcC w a2 ys.length cap2 (lf ys)) (hs3 : SrcC w a3 gone.length cap3 (lf gone)) (ht : Tab w) (hg : Ety w) : Calls Tryd.prog 19 #[.int .i64 f, .slice a xs.length cap, .slice a2 ys.length cap2, .int .i64 k, .slice a3 gone.length cap3] w (OwnIB w (mDecodeGaps0 f xs ys k gone) (mDecodeGaps1 f xs ys k gone) (mDecodeGaps2 f xs ys k gone)) := iDecodeGaps f a xs cap a2 ys cap2 k a3 gone cap3 w hn hn2 hn3 hs hs2 hs3 ht hg
end Go.Proofs.YtangofjpnhhfeabDoor
namespace Go.Proofs.YtangofjpnhhfeabDoor
open Go.RowKit
theorem InvAt.list {f : Int} {a : List Int} {w w' : World} {v : Value} (ha : SerOk f a) (h : InvAt f (lf a) w w' v a.length) : ∃ x c, v = .slice x (invL f a).length c ∧ Src w' x (invL f a).length (lf (invL f a)) ∧ Below w.heap.size w w' ∧ QInv f a (invL f a) := by
  obtain ⟨O, hO, hinv, hown, hb⟩ := h
  have hp := P_bd ha.1.1 ha.1.2
  have hq : QInv f a (tab a.length O) := ⟨tab_ser (by omega) hO, inv_tab hinv⟩
  rw [invL_eq hq]
  obtain ⟨x, c, hv, hS, hB⟩ := (owns_to (w := w) (l := tab a.length O) hown (tab_len _ _).symm (fun j hj => by rw [lf_tab, if_pos hj]) hb).list
  exact ⟨x, c, Ending.returned.inj hv, hS, hB, hq⟩
end Go.Proofs.YtangofjpnhhfeabDoor
namespace Go.Proofs.YtangofjpnhhfeabDoor
open Go.RowKit
theorem one_bd {f : Int} (h0 : 0 ≤ f) (h8 : f ≤ 8) (j : Nat) : 0 ≤ oneS j ∧ oneS j < P f := by
  have := P_bd h0 h8
  show 0 ≤ (if j = 0 then (1 : Int) else 0) ∧ (if j = 0 then (1 : Int) else 0) < P f
  split <;> omega
/-- The coefficients of an exponential so far. -/
def ExpAt (f : Int) (A : Nat → Int) (w wr : World) (v : Value) (k : Nat) : Prop := ∃ O : Nat → Int, (∀ j, 0 ≤ O j ∧ O j < P f) ∧ (IsLog (P f) k A O ∧ O 0 = 1) ∧ wr.ownsRow w.heap.size 3 1 v k (xsF O k) ∧ Below w.heap.size w wr
theorem log_tab {p : Int} {n : Nat} {A O : Nat → Int} (h : IsLog p n A O) : IsLog p n A (lf (tab n O)) := by
  intro i hi
  have e : cv i (thS A) (lf (tab n O)) = cv i (thS A) O := cv_congr (fun _ _ => rfl) (fun j hj => by rw [lf_tab, if_pos (by omega)])
  show ((i : Int) * lf (tab n O) i) % p = cv i (thS A) (lf (tab n O)) % p
  rw [e, lf_tab, if_pos hi]
  exact h i hi
theorem ExpAt.list {f : Int} {a : List Int} {w w' : World} {v : Value} (ha : ShortOk f a) (h : ExpAt f (lf a) w w' v a.length) : ∃ x c, v = .slice x (expL f a).length c ∧ Src w' x (expL f a).length (lf (expL f a)) ∧ Below w.heap.size w w' ∧ QExp f a (expL f a) := by
  obtain ⟨O, hO, hinv, hown, hb⟩ := h
  have hp := P_bd ha.1.1.1 ha.1.1.2
  have n1 := ha.1.2.1
  have hq : QExp f a (tab a.length O) := ⟨tab_ser (by omega) hO, by rw [lf_tab, if_pos (by omega)]; exact hinv.2, log_tab hinv.1⟩
  rw [expL_eq ha hq]
  obtain ⟨x, c, hv, hS, hB⟩ := (owns_to (w := w) (l := tab a.length O) hown (tab_len _ _).symm (fun j hj => by rw [lf_tab, if_pos hj]) hb).list
  exact ⟨x, c, Ending.returned.inj hv, hS, hB, hq⟩
end Go.Proofs.YtangofjpnhhfeabDoor
namespace Go.Proofs.YtangofjpnhhfeabDoor
open Go.RowKit
/-- The coefficients of a square root so far. -/
def SqrtAt (f : Int) (A : Nat → Int) (w wr : World) (v : Value) (k : Nat) : Prop := ∃ O : Nat → Int, (∀ j, 0 ≤ O j ∧ O j < P f) ∧ (EqN (P f) k (mulS O O) A ∧ O 0 = 1) ∧ wr.ownsRow w.heap.size 3 1 v k (xsF O k) ∧ Below w.heap.size w wr
theorem sqrt_tab {p : Int} {n : Nat} {A O : Nat → Int} (h : EqN p n (mulS O O) A) : EqN p n (mulS (lf (tab n O)) (lf (tab n O))) A := ((tab_eq p n O).mul (tab_eq p n O)).trans h
theorem SqrtAt.list {f : Int} {a : List Int} {w w' : World} {v : Value} (ha : SerOk f a) (h : SqrtAt f (lf a) w w' v a.length) : ∃ x c, v = .slice x (sqrtL f a).length c ∧ Src w' x (sqrtL f a).length (lf (sqrtL f a)) ∧ Below w.heap.size w w' ∧ QSqrt f a (sqrtL f a) := by
  obtain ⟨O, hO, hinv, hown, hb⟩ := h
  have hp := P_bd ha.1.1 ha.1.2
  have n1 := ha.2.1
  have hq : QSqrt f a (tab a.length O) := ⟨tab_ser (by omega) hO, by rw [lf_tab, if_pos (by omega)]; exact hinv.2, sqrt_tab hinv.1⟩
  rw [sqrtL_eq ha hq]
  obtain ⟨x, c, hv, hS, hB⟩ := (owns_to (w := w) (l := tab a.length O) hown (tab_len _ _).symm (fun j hj => by rw [lf_tab, if_pos hj]) hb).list
  exact ⟨x, c, Ending.returned.inj hv, hS, hB, hq⟩
end Go.Proofs.YtangofjpnhhfeabDoor
namespace Go.Proofs.YtangofjpnhhfeabDoor
open Go.RowKit
/-- Powers by squaring: O times X to the k is what is wanted. -/
def SPAt (f : Int) (n : Nat) (B : Nat → Int) (E k : Nat) (O X : List Int) : Prop := Ser f n O ∧ Ser f n X ∧ EqN (P f) n (mulS (lf O) (powS (lf X) k)) (powS B E)
theorem smul_eq {f : Int} {n : Nat} {O X : List Int} (hO : Ser f n O) : EqN (P f) n (lf (smulL f O X)) (mulS (lf O) (lf X)) := by
  have : EqN (P f) O.length (lf (smulL f O X)) (mulS (lf O) (lf X)) := elL_eq _ _
  rwa [hO.1] at this
theorem smul_ser {f : Int} (h0 : 0 ≤ f) (h8 : f ≤ 8) {n : Nat} {O X : List Int} (hO : Ser f n O) : Ser f n (smulL f O X) := by
  have : Ser f O.length (smulL f O X) := elL_ser h0 h8 _ _
  rwa [hO.1] at this
theorem sq_pow (A : Nat → Int) (h : Nat) : powS (mulS A A) h = powS A (h + h) := by rw [pow_mulS, ← pow_addS]
theorem SPAt.odd {f : Int} (h0 : 0 ≤ f) (h8 : f ≤ 8) {n : Nat} {B : Nat → Int} {E k : Nat} {O X : List Int} (h : SPAt f n B E k O X) (hk : k % 2 = 1) : SPAt f n B E (k / 2) (smulL f O X) (smulL f X X) := by
  refine ⟨smul_ser h0 h8 h.1, smul_ser h0 h8 h.2.1, ?_⟩
  have e := (smul_eq (X := X) h.1).mul (EqN.pow (smul_eq (X := X) h.2.1) (k / 2))
  refine e.trans ?_
  have e2 : powS (lf X) k = mulS (powS (lf X) (k / 2 + k / 2)) (lf X) := by
    have : k = (k / 2 + k / 2) + 1 := by omega
    exact congrArg (powS (lf X)) this
  rw [sq_pow, mul_assocS, mul_commS (lf X), ← e2]
  exact h.2.2
theorem SPAt.start {f : Int} (h0 : 0 ≤ f) (h8 : f ≤ 8) {n : Nat} {X : List Int} (hX : Ser f n X) (E : Nat) : SPAt f n (lf X) E E (tab n oneS) X := by
  have hp := P_bd h0 h8
  refine ⟨tab_ser (by omega) (one_bd h0 h8), hX, ?_⟩
  have e := (tab_eq (P f) n oneS).mul (EqN.refl (P f) n (powS (lf X) E))
  rwa [one_mul] at e
end Go.Proofs.YtangofjpnhhfeabDoor
namespace Go.Proofs.YtangofjpnhhfeabDoor
open Go.RowKit
def eS (A : Nat → Int) : Nat → Int := fun k => if k = 0 then 1 else A (k - 1)
/-- The power sums so far. -/
def NewtAt (f : Int) (A : Nat → Int) (w wr : World) (v : Value) (k : Nat) : Prop := ∃ O : Nat → Int, (∀ j, 0 ≤ O j ∧ O j < P f) ∧ IsNewt (P f) k (eS A) O ∧ wr.ownsRow w.heap.size 3 1 v k (xsF O k) ∧ Below w.heap.size w wr
theorem newt_tab {p : Int} {n : Nat} {E O : Nat → Int} (h : IsNewt p n E O) : IsNewt p n E (lf (tab n O)) := by
  intro i hi
  have e : cv i (sgnS (lf (tab n O))) E = cv i (sgnS O) E := cv_congr (fun j hj => by
    unfold sgnS
    by_cases hz : j = 0
    · rw [if_pos hz, if_pos hz]
    · rw [if_neg hz, if_neg hz, lf_tab, if_pos (by omega)]) (fun _ _ => rfl)
  show thS E i % p = cv i (sgnS (lf (tab n O))) E % p
  rw [e]
  exact h i hi
theorem NewtAt.list {f : Int} {a : List Int} {w w' : World} {v : Value} (ha : SerOk f a) (h : NewtAt f (lf a) w w' v a.length) : ∃ x c, v = .slice x (newtL f a).length c ∧ Src w' x (newtL f a).length (lf (newtL f a)) ∧ Below w.heap.size w w' ∧ QNewt f a (newtL f a) := by
  obtain ⟨O, hO, hinv, hown, hb⟩ := h
  have hp := P_bd ha.1.1 ha.1.2
  have hq : QNewt f a (tab a.length O) := ⟨tab_ser (by omega) hO, newt_tab hinv⟩
  rw [newtL_eq ha hq]
  obtain ⟨x, c, hv, hS, hB⟩ := (owns_to (w := w) (l := tab a.length O) hown (tab_len _ _).symm (fun j hj => by rw [lf_tab, if_pos hj]) hb).list
  exact ⟨x, c, Ending.returned.inj hv, hS, hB, hq⟩
end Go.Proofs.YtangofjpnhhfeabDoor
namespace Go.Proofs.YtangofjpnhhfeabDoor
open Go.RowKit
/-- A row that was drawn. -/
def SK (g : Nat) (w W : World) (g2 n cap : Nat) : Prop := (∃ F : Nat → Int, OwnV W g2 n cap F) ∧ g2 ≠ g ∧ w.heap.size ≤ g2 ∧ Cur g W ∧ w.grownBy W (some g)
theorem SK.grown {g : Nat} {w W W' : World} {g2 n cap : Nat} (h : SK g w W g2 n cap) (hg : W.grownBy W' (some g)) (hc : Cur g W') : SK g w W' g2 n cap := by
  obtain ⟨⟨F, ho⟩, hne, h2, _, hw⟩ := h
  exact ⟨⟨F, ho.grown hg hne⟩, hne, h2, hc, hw.trans hg⟩
theorem SK.put {g : Nat} {w W : World} {g2 n cap k : Nat} {y : Int} (h : SK g w W g2 n cap) (hB : g < w.heap.size) : SK g w (W.setCell ⟨g2, k, none⟩ (.int .i64 y)) g2 n cap := by
  obtain ⟨⟨F, ho⟩, hne, h2, hc, hw⟩ := h
  have hset : W.grownBy (W.setCell ⟨g2, k, none⟩ (.int .i64 y)) (some g2) := grown_set (World.grownBy.refl _ _) _ _
  exact ⟨⟨upd F k y, ho.set⟩, hne, h2, hc.other hset (fun r hr => by injection hr with hr; omega), grown_new hw hset (fun r hr => by injection hr with hr; omega)⟩
/-- A list in a row that may be written, from block B on. -/
def WrB (W : World) (B : Nat) (a : Option Addr) (l : List Int) (cap : Nat) : Prop := l.length = 0 ∨ ∃ g2, a = some ⟨g2, 0, none⟩ ∧ B ≤ g2 ∧ OwnV W g2 l.length cap (lf l)
def WrG (W : World) (B g : Nat) (a : Option Addr) (l : List Int) (cap : Nat) : Prop := l.length = 0 ∨ ∃ g2, a = some ⟨g2, 0, none⟩ ∧ g2 ≠ g ∧ B ≤ g2 ∧ OwnV W g2 l.length cap (lf l)
theorem WrG.wr {W : World} {B g : Nat} {a : Option Addr} {l : List Int} {cap : Nat} (h : WrG W B g a l cap) : WrB W B a l cap := by
  rcases h with h | ⟨g2, h1, _, h2, h3⟩
  · exact .inl h
  · exact .inr ⟨g2, h1, h2, h3⟩
theorem WrG.grown {W W' : World} {B g : Nat} {a : Option Addr} {l : List Int} {cap : Nat} (h : WrG W B g a l cap) (hg : W.grownBy W' (some g)) : WrG W' B g a l cap := by
  rcases h with h | ⟨g2, h1, hne, h2, h3⟩
  · exact .inl h
  · exact .inr ⟨g2, h1, hne, h2, h3.grown hg hne⟩
theorem WrB.src {W : World} {B : Nat} {a : Option Addr} {l : List Int} {cap : Nat} (h : WrB W B a l cap) : Src W a l.length (lf l) := by
  rcases h with h | ⟨g2, rfl, _, h3⟩
  · exact .inl h
  · exact h3.src
theorem WrB.keep {W W' : World} {B : Nat} {a : Option Addr} {l : List Int} {cap : Nat} (h : WrB W B a l cap) (hb : Below W.heap.size W W') : WrB W' B a l cap := by
  rcases h with h | ⟨g2, h1, h2, h3⟩
  · exact .inl h
  · exact .inr ⟨g2, h1, h2, h3.keep hb⟩
def ZW (g : Nat) (w : World) (n : Nat) (e : Ending) (w' : World) : Prop := ∃ (l : List Int) (a : Option Addr) (cap : Nat), e = .returned (.slice a l.length cap) ∧ l.length = n ∧ WrG w' w.heap.size g a l cap ∧ Cur g w' ∧ w.grownBy w' (some g)
theorem SK.pol {g : Nat} {w W : World} {g2 n cap : Nat} (h : SK g w W g2 n cap) : ZW g w n (.returned (.slice (some ⟨g2, 0, none⟩) n cap)) W := by
  obtain ⟨⟨F, ho⟩, hne, h2, hc, hw⟩ := h
  refine ⟨tab n F, some ⟨g2, 0, none⟩, cap, by rw [tab_len], tab_len _ _, .inr ⟨g2, rfl, hne, h2, ?_⟩, hc, hw⟩
  rw [tab_len]
  exact ho.congr fun j hj => by rw [lf_tab, if_pos hj]
theorem sizeB_c (a : Option Addr) (len cap : Nat) (m : Int) (w : World) (hl : len ≤ 1099511627776) (m0 : 1 ≤ m) (m1 : m ≤ 1000) : Calls Tryd.prog 82 #[.slice a len cap, .int .i64 m] w (SizeM m w) := by
  by_cases h : m < 2 + (len : Int) / 16
  · go_enter Tryd.func82, Tryd.ntmps82
    go_wp2
    go_ret
    exact ⟨m, rfl, by omega, by omega, rfl⟩
  · go_enter Tryd.func82, Tryd.ntmps82
    go_wp2
    go_ret
    exact ⟨_, rfl, by omega, by omega, rfl⟩
end Go.Proofs.YtangofjpnhhfeabDoor
namespace Go.Proofs.YtangofjpnhhfeabDoor
open Go.RowKit
def ZPts (g : Nat) (w : World) (n : Nat) (e : Ending) (w' : World) : Prop := ∃ m, 1 ≤ m ∧ m ≤ n ∧ ZW g w m e w'
theorem hasF_pos {F : Nat → Int} {m : Nat} {x : Int} (h : hasF F m x = true) : 0 < m := by
  unfold hasF at h
  simp only [decide_eq_true_eq] at h
  obtain ⟨j, hj, _⟩ := h
  omega
set_option maxRecDepth 100000 in
set_option maxHeartbeats 3200000 in
theorem drawPoints_c (g : Nat) (f : Int) (n : Nat) (w : World) (hc : Cur g w) (n1 : 1 ≤ n) (hn : n ≤ 4096) : Calls Tryd.prog 83 #[.pointer (some ⟨g, 0, none⟩), .int .i64 f, .int .i64 n] w (ZPts g w n) := by
  obtain ⟨i0, hi, hz0, hz1, hz2⟩ := info_parts info3
  have HI := Lib.hid hi
  have HZ0 := Lib.hid hz0
  have HZ1 := Lib.hid hz1
  have HZ2 := Lib.hid hz2
  clear hi hz0 hz1 hz2
  have HMO := Lib.hid (sModulus f)
  generalize P f = MM at *
  have hB : g < w.heap.size := hc.lt
  go_enter Tryd.func83, Tryd.ntmps83
  go_wp2_with fail
  go_loopw [7, 8, 9] (fun v i _ wr => ∃ k m : Nat, i = .int .i64 k ∧ k ≤ n ∧ m ≤ k ∧ (0 < k → 0 < m) ∧ ZAt g w wr v m) (fun _ i _ _ => n - (intOf i).toNat)
  case atStart => exact ⟨0, 0, rfl, by omega, by omega, by omega, ⟨fun _ => 0, own_empty w (fun _ => 0)⟩, hc.alloc _, World.grownBy_alloc _ _ _, by simp⟩
  case round =>
    obtain ⟨k, m, rfl, hk, hmk, hm0, ⟨F, hown⟩, hcur, hbel, hsz⟩ := hrel
    by_cases hlt : k < n
    · have hd : decide ((k : Int) < n) = true := decide_eq_true (by omega)
      go_wp2_with fail
      refine (element_c g f wr hcur).mono ?_
      rintro e w9 ⟨x9, _, rfl, g9, c9⟩
      have hown9 := hown.kept g9 (zown_ne hB hown)
      have hb9 := hbel.trans g9
      have hs9 : w.heap.size ≤ w9.heap.size := Nat.le_trans hsz g9.size
      clear hown hcur hbel g9
      obtain ⟨a9, cap9, rfl, _, hs9s⟩ := src_of_owns2 hown9
      have HH := Lib.hid (has_c a9 m cap9 F x9 w9 (by omega) hs9s)
      clear hs9s
      cases hB2 : hasF F m x9
      · rw [hB2] at HH
        go_wp2_with fail
        refine HH.out.mono ?_
        rintro e w' ⟨rfl, rfl⟩
        have hcap4 : m ≤ 4096 := by omega
        go_wp2_with (at_builtin; refine wpList_append_own _ rfl _ _ 22 rfl w.heap.size 3 i0 (.int .i64 0) 1 8 Tryd.underlying22 HI.out HZ0.out HZ1.out HZ2.out rfl (by decide) _ _ _ rfl (hown9.alloc _) ⟨w9.heap.size, 0, none⟩ 1 1 [.int .i64 x9] rfl rfl ?c1 ?c2 ?c3 ?c4 ?c5 ?_)
        case c1 => exact cell_one_new _ _ _
        case c2 => intro u hu; simp at hu; subst hu; rfl
        case c3 => unfold maxLen; omega
        case c4 => omega
        case c5 => simp; omega
        intro v' w10 hown' hgrow _
        have hst := zdraw_step hB hb9 c9 hown9 hown' hgrow
        clear hgrow hown' hown9 c9 hb9
        go_wp2
        go_roundw
        case rel => exact ⟨k + 1, m + 1, by go_num, by omega, by omega, fun _ => by omega, hst⟩
        case measure => simp [intOf]; omega
      · rw [hB2] at HH
        have hmp := hasF_pos hB2
        go_wp2_with fail
        refine HH.out.mono ?_
        rintro e w' ⟨rfl, rfl⟩
        go_wp2_with fail
        refine (once_c g 60 w9 c9 (by omega) (by omega)).mono ?_
        rintro e w11 ⟨b11, rfl, g11, c11⟩
        have hown11 := hown9.kept g11 (zown_ne hB hown9)
        have hb11 := hb9.trans g11
        have hs11 : w.heap.size ≤ w11.heap.size := Nat.le_trans hs9 g11.size
        clear hown9 c9 hb9 g11 HH hs9
        cases b11
        · go_wp2
          go_roundw
          case rel => exact ⟨k + 1, m, by go_num, by omega, by omega, fun _ => hmp, ⟨F, hown11⟩, c11, hb11, hs11⟩
          case measure => simp [intOf]; omega
        · skip
          have hcap4 : m ≤ 4096 := by omega
          go_wp2_with (at_builtin; refine wpList_append_own _ rfl _ _ 22 rfl w.heap.size 3 i0 (.int .i64 0) 1 8 Tryd.underlying22 HI.out HZ0.out HZ1.out HZ2.out rfl (by decide) _ _ _ rfl (hown11.alloc _) ⟨w11.heap.size, 0, none⟩ 1 1 [.int .i64 x9] rfl rfl ?d1 ?d2 ?d3 ?d4 ?d5 ?_)
          case d1 => exact cell_one_new _ _ _
          case d2 => intro u hu; simp at hu; subst hu; rfl
          case d3 => unfold maxLen; omega
          case d4 => omega
          case d5 => simp; omega
          intro v' w10 hown' hgrow _
          have hst := zdraw_step hB hb11 c11 hown11 hown' hgrow
          clear hgrow hown' hown11 c11 hb11
          go_wp2
          go_roundw
          case rel => exact ⟨k + 1, m + 1, by go_num, by omega, by omega, fun _ => by omega, hst⟩
          case measure => simp [intOf]; omega
    · have hd : decide ((k : Int) < n) = false := decide_eq_false (by omega)
      obtain rfl : k = n := by omega
      have hm1 : m ≠ 0 := by have := hm0 (by omega); omega
      obtain ⟨g2, cap2, rfl, hg2, ho2⟩ := OwnV.of_owns hown hm1
      have hne : g2 ≠ g := by omega
      have HSK : Hid (SK g w wr g2 m cap2) := Lib.hid ⟨⟨F, ho2⟩, hne, hg2, hcur, hbel⟩
      have dk : decide ((0 : Int) < m) = true := decide_eq_true (by omega)
      have dkn : decide (0 < m) = true := decide_eq_true (by omega)
      clear hown hbel ho2
      go_wp2_with fail
      refine (once_c g 25 wr hcur (by omega) (by omega)).mono ?_
      rintro e w1 ⟨b1, rfl, g1, c1⟩
      have HS2 := Lib.hid (HSK.out.grown g1 c1)
      clear HSK g1 hcur
      cases b1
      · have HP := Lib.hid HS2.out.pol
        clear HS2
        go_wp2
        go_ret
        exact ⟨m, by omega, hmk, HP.out⟩
      · go_wp2_with fail
        refine (below_c g m w1 c1 (by omega) (by omega)).mono ?_
        rintro e w2 ⟨t, ⟨t0, t1⟩, rfl, g4, c2⟩
        obtain ⟨t, rfl⟩ := Int.eq_ofNat_of_zero_le t0
        have HS3 := Lib.hid (HS2.out.grown g4 c2)
        clear HS2 g4 c1
        go_wp2_with fail
        refine (HMO.out w2).mono ?_
        rintro e w' ⟨rfl, rfl⟩
        go_wp2_with fail
        refine (pick_c (fun _ => True) g w2.heap.size 2 2 _ (c2.alloc _) (by omega) (by omega) (ints_alloc (fun _ => True) c2.lt #[.int .i64 (-1), .int .i64 MM] 3 (fun j hj => by
          have h3 : j = 0 ∨ j = 1 := by have : j < 2 := hj; omega
          rcases h3 with rfl | rfl <;> exact ⟨_, rfl, trivial⟩))).mono ?_
        rintro e w10 ⟨y, _, rfl, g10, c10⟩
        have HS4 := Lib.hid (HS3.out.grown ((World.grownBy_alloc w2 _ (some g)).trans g10) c10)
        have HF := Lib.hid (HS4.out.put (k := t) (y := y) hB).pol
        obtain ⟨⟨F4, ho4⟩, _⟩ := HS4.out
        have cc := ho4.cell (show t < m by omega)
        have fr := ho4.frozen t
        have tn : (t : Int) < (m : Int) := t1
        clear HS3 HS4 g10 ho4
        go_wp2
        go_ret
        exact ⟨m, by omega, hmk, HF.out⟩
end Go.Proofs.YtangofjpnhhfeabDoor
namespace Go.Proofs.YtangofjpnhhfeabDoor
open Go.RowKit
def D4P (w : World) (e : Ending) (w' : World) : Prop := ∃ (f : Int) (a : Option Addr) (l : List Int) (cap : Nat) (a2 : Option Addr) (m : List Int) (cap2 : Nat), e = .returned (.tuple #[.pointer (some ⟨w.heap.size, 0, none⟩), .int .i64 f, .slice a l.length cap, .slice a2 m.length cap2]) ∧ 1 ≤ l.length ∧ l.length ≤ 100 ∧ m.length ≤ 100 ∧ SrcC w' a l.length cap (lf l) ∧ SrcC w' a2 m.length cap2 (lf m) ∧ Below w.heap.size w w'
theorem wrg_cap {W : World} {B g : Nat} {a : Option Addr} {l : List Int} {cap : Nat} (h : WrG W B g a l cap) : l.length ≤ cap := by
  rcases h with h | ⟨g2, _, _, _, V, _, h3, _⟩
  · omega
  · exact h3
theorem ownV_other {w w' : World} {g2 n cap : Nat} {F : Nat → Int} {row : Option Nat} (h : OwnV w g2 n cap F) (hg : w.grownBy w' row) (hne : some g2 ≠ row) : OwnV w' g2 n cap F := by
  obtain ⟨V, h1, h2, h3⟩ := h
  exact ⟨V, World.rowIs.of_block h1 (hg.block g2 (OwnV.lt ⟨V, h1, h2, h3⟩) hne), h2, h3⟩
/-- A list, in a world where a row that is none of its own has grown. -/
theorem wrg_other {W0 W W' : World} {B g : Nat} {a : Option Addr} {l : List Int} {cap : Nat} {row : Option Nat} (h : WrG W B g a l cap) (hr : ∀ k, row = some k → W0.heap.size ≤ k) (hg : W.grownBy W' row) (hlt : ∀ g2, a = some ⟨g2, 0, none⟩ → g2 < W0.heap.size) : WrG W' B g a l cap := by
  rcases h with h | ⟨g2, h1, hne, h2, h3⟩
  · exact .inl h
  · exact .inr ⟨g2, h1, hne, h2, ownV_other h3 hg fun e => by have := hr g2 e.symm; have := hlt g2 h1; omega⟩
theorem wrg_lt {W : World} {B g : Nat} {a : Option Addr} {l : List Int} {cap : Nat} (h1 : 1 ≤ l.length) (h : WrG W B g a l cap) : ∀ g2, a = some ⟨g2, 0, none⟩ → g2 < W.heap.size := fun g2 e => by
  rcases h with h | ⟨g3, h2, _, _, h3⟩
  · omega
  · have e2 := h2.symm.trans e
    injection e2 with e2
    injection e2 with e2
    have := h3.lt
    omega
theorem below_row {B : Nat} {w w1 w2 : World} {row : Option Nat} (h : Below B w w1) (hr : ∀ k, row = some k → B ≤ k) (hg : w1.grownBy w2 row) (hB : B ≤ w.heap.size) : Below B w w2 :=
  ⟨hg.os.trans h.os, hg.tape.trans h.tape, hg.output.trans h.output, Nat.le_trans h.size hg.size, fun i hi => (hg.block i (by have := h.size; omega) (fun e => by have := hr i e.symm; omega)).trans (h.block i hi)⟩
theorem d4_end {w w4 w6 : World} {B : Nat} {f : Int} {a4 : Option Addr} {l : List Int} {cap4 : Nat} {v : Value} {n : Nat} {F : Nat → Int} (_ : w.heap.size < w4.heap.size) (h1 : 1 ≤ l.length) (h2 : l.length ≤ 100) (hlc : l.length ≤ cap4) (hs : WrG w6 B w.heap.size a4 l cap4) (ho : w6.ownsRow w4.heap.size 3 1 v n (xsF F n)) (hn : n ≤ 100) (b : Below w.heap.size w w6) : D4P w (.returned (.tuple #[.pointer (some ⟨w.heap.size, 0, none⟩), .int .i64 f, .slice a4 l.length cap4, v])) w6 := by
  have ht := owns_to_tab ho
  obtain ⟨a2, cap2, rfl, hc2, hs2⟩ := src_of_owns2 ht
  exact ⟨f, a4, l, cap4, a2, tab n F, cap2, rfl, h1, h2, by rw [tab_len]; exact hn, ⟨hlc, hs.wr.src⟩, ⟨hc2, hs2⟩, b⟩
set_option maxRecDepth 100000 in
set_option maxHeartbeats 3200000 in
theorem drawPairs_c (a : Option Addr) (len cap : Nat) (w : World) (hc : Code w a len) : Calls Tryd.prog 51 #[.slice a len cap] w (D4P w) := by
  have hl := hc.1
  obtain ⟨i0, hi, hz0, hz1, hz2⟩ := info_parts info3
  have HI := Lib.hid hi
  have HZ0 := Lib.hid hz0
  have HZ1 := Lib.hid hz1
  have HZ2 := Lib.hid hz2
  clear hi hz0 hz1 hz2
  go_enter Tryd.func51, Tryd.ntmps51
  go_wp2_with fail
  refine (new_c a len cap w hc).mono ?_
  rintro e w1 ⟨rfl, b1, c1⟩
  go_wp2_with fail
  refine (field_c w.heap.size w1 c1).mono ?_
  rintro e w2 ⟨f, _, rfl, g2, c2⟩
  have b2 := below_of_grown b1 g2
  clear b1 g2 c1 hc
  go_wp2_with fail
  refine (sizeB_c a len cap 20 w2 hl (by omega) (by omega)).mono ?_
  rintro e w' ⟨r, rfl, r0, r1, rfl⟩
  go_wp2_with fail
  refine (below_c w.heap.size r w2 c2 (by omega) (by omega)).mono ?_
  rintro e w2b ⟨x, ⟨x0, x1⟩, rfl, g2b, c2b⟩
  have b2b := below_of_grown b2 g2b
  obtain ⟨x, rfl⟩ := Int.eq_ofNat_of_zero_le x0
  clear b2 g2b c2
  go_wp2_with fail
  refine (once_c w.heap.size 20 w2b c2b (by omega) (by omega)).mono ?_
  rintro e w3 ⟨bb, rfl, g3, c3⟩
  have b3 := below_of_grown b2b g3
  clear b2b g3 c2b
  cases bb
  · have en : (1 : Int) + (x : Int) = ((1 + x : Nat) : Int) := by omega
    obtain ⟨nn, hnn⟩ : ∃ nn, 1 + x = nn := ⟨_, rfl⟩
    have hn1 : 1 ≤ nn := by omega
    have hn2 : nn ≤ 55 := by omega
    rw [hnn] at en
    have HEN := Lib.hid en
    clear en hnn
    rw [HEN.out]
    go_wp2_with fail
    refine (drawPoints_c w.heap.size f nn w3 c3 (by omega) (by omega)).mono ?_
    rintro e w4 ⟨m4, h41, h42, l, a4, cap4, rfl, hl4, s4, c4, g4⟩
    have hl1 : 1 ≤ l.length := by omega
    have hl2 : l.length ≤ 55 := by omega
    have b4 := below_of_grown b3 g4
    have HS4 := Lib.hid s4
    have hsz4 := c4.lt
    have HLT4 : Hid (∀ g2, a4 = some ⟨g2, 0, none⟩ → g2 < w4.heap.size) := Lib.hid (wrg_lt hl1 s4)
    have hlc : l.length ≤ cap4 := wrg_cap s4
    clear s4 g4 b3 c3 hl4 h41 h42
    go_wp2_with fail
    refine (drawList_c w.heap.size f l.length w4 c4 (by omega)).mono ?_
    rintro e w5 ⟨v5, rfl, ⟨F5, ho5⟩, c5, g5, hs5⟩
    have HS5 := Lib.hid (HS4.out.grown g5)
    have b5 := below_of_grown b4 g5
    clear HS4 c4
    go_wp2_with fail
    refine (once_c w.heap.size 15 w5 c5 (by omega) (by omega)).mono ?_
    rintro e w6 ⟨b6, rfl, g6, c6⟩
    have HS6 := Lib.hid (HS5.out.grown g6)
    have b6' := below_of_grown b5 g6
    have ho6 := ho5.kept g6 (zown_ne hsz4 ho5)
    have g46 := g5.trans g6
    have hsz6 := b6'.size
    have hs6 := Nat.le_trans hs5 g6.size
    clear ho5 g5 g6 c5 b5 HS5
    cases b6
    · have HE : Hid (D4P w (.returned (.tuple #[.pointer (some ⟨w.heap.size, 0, none⟩), .int .i64 f, .slice a4 l.length cap4, v5])) w6) := Lib.hid (d4_end hsz4 hl1 (by omega) hlc HS6.out (ho6) (by omega) b6')
      clear ho6 g46 HS6
      go_wp2
      (try simp only [Exit.inBlock, Exit.then])
      refine bodyPost_ret (results_tmpZ rfl _ _ _) rfl ?_
      exact HE.out
    · have hge := own_ge ho6
      go_wp2_with (at_builtin; refine wpList_append_own _ rfl _ _ 22 rfl w4.heap.size 3 i0 (.int .i64 0) 1 8 Tryd.underlying22 HI.out HZ0.out HZ1.out HZ2.out rfl (by decide) _ _ _ rfl (ho6.alloc _) ⟨w6.heap.size, 0, none⟩ 1 1 [.int .i64 1] rfl rfl ?c1 ?c2 ?c3 ?c4 ?c5 ?_)
      case c1 => exact cell_one_new _ _ _
      case c2 => intro u hu; simp at hu; subst hu; rfl
      case c3 => unfold maxLen; omega
      case c4 => omega
      case c5 => simp; omega
      intro v8 w8 hown' hgrow _
      obtain ⟨⟨F8, ho8⟩, c8, g8, _⟩ := zdraw_step (w := w4) hsz4 g46 c6 ho6 hown' hgrow
      have g68 : w6.grownBy w8 v5.ownBlock := (World.grownBy_alloc w6 _ _).trans hgrow
      have HS8 := Lib.hid (wrg_other HS6.out hge g68 HLT4.out)
      have b8 : Below w.heap.size w w8 := below_row b6' (fun k hk => Nat.le_trans (Nat.le_of_lt hsz4) (hge k hk)) g68 (Nat.le_refl _)
      have HE : Hid (D4P w (.returned (.tuple #[.pointer (some ⟨w.heap.size, 0, none⟩), .int .i64 f, .slice a4 l.length cap4, v8])) w8) := Lib.hid (d4_end hsz4 hl1 (by omega) hlc HS8.out ho8 (by omega) b8)
      clear ho6 g46 HS6 hgrow hown' ho8 g8 g68 HS8
      go_wp2
      (try simp only [Exit.inBlock, Exit.then])
      refine bodyPost_ret (results_tmpZ rfl _ _ _) rfl ?_
      exact HE.out
  · obtain ⟨nn, hnn⟩ : ∃ nn : Nat, 55 = nn := ⟨_, rfl⟩
    have hn1 : 1 ≤ nn := by omega
    have hn2 : nn ≤ 55 := by omega
    go_wp2_with fail
    refine (drawPoints_c w.heap.size f 55 w3 c3 (by omega) (by omega)).mono ?_
    rintro e w4 ⟨m4, h41, h42, l, a4, cap4, rfl, hl4, s4, c4, g4⟩
    have hl1 : 1 ≤ l.length := by omega
    have hl2 : l.length ≤ 55 := by omega
    have b4 := below_of_grown b3 g4
    have HS4 := Lib.hid s4
    have hsz4 := c4.lt
    have HLT4 : Hid (∀ g2, a4 = some ⟨g2, 0, none⟩ → g2 < w4.heap.size) := Lib.hid (wrg_lt hl1 s4)
    have hlc : l.length ≤ cap4 := wrg_cap s4
    clear s4 g4 b3 c3 hl4 h41 h42
    go_wp2_with fail
    refine (drawList_c w.heap.size f l.length w4 c4 (by omega)).mono ?_
    rintro e w5 ⟨v5, rfl, ⟨F5, ho5⟩, c5, g5, hs5⟩
    have HS5 := Lib.hid (HS4.out.grown g5)
    have b5 := below_of_grown b4 g5
    clear HS4 c4
    go_wp2_with fail
    refine (once_c w.heap.size 15 w5 c5 (by omega) (by omega)).mono ?_
    rintro e w6 ⟨b6, rfl, g6, c6⟩
    have HS6 := Lib.hid (HS5.out.grown g6)
    have b6' := below_of_grown b5 g6
    have ho6 := ho5.kept g6 (zown_ne hsz4 ho5)
    have g46 := g5.trans g6
    have hsz6 := b6'.size
    have hs6 := Nat.le_trans hs5 g6.size
    clear ho5 g5 g6 c5 b5 HS5
    cases b6
    · have HE : Hid (D4P w (.returned (.tuple #[.pointer (some ⟨w.heap.size, 0, none⟩), .int .i64 f, .slice a4 l.length cap4, v5])) w6) := Lib.hid (d4_end hsz4 hl1 (by omega) hlc HS6.out (ho6) (by omega) b6')
      clear ho6 g46 HS6
      go_wp2
      (try simp only [Exit.inBlock, Exit.then])
      refine bodyPost_ret (results_tmpZ rfl _ _ _) rfl ?_
      exact HE.out
    · have hge := own_ge ho6
      go_wp2_with (at_builtin; refine wpList_append_own _ rfl _ _ 22 rfl w4.heap.size 3 i0 (.int .i64 0) 1 8 Tryd.underlying22 HI.out HZ0.out HZ1.out HZ2.out rfl (by decide) _ _ _ rfl (ho6.alloc _) ⟨w6.heap.size, 0, none⟩ 1 1 [.int .i64 1] rfl rfl ?c1 ?c2 ?c3 ?c4 ?c5 ?_)
      case c1 => exact cell_one_new _ _ _
      case c2 => intro u hu; simp at hu; subst hu; rfl
      case c3 => unfold maxLen; omega
      case c4 => omega
      case c5 => simp; omega
      intro v8 w8 hown' hgrow _
      obtain ⟨⟨F8, ho8⟩, c8, g8, _⟩ := zdraw_step (w := w4) hsz4 g46 c6 ho6 hown' hgrow
      have g68 : w6.grownBy w8 v5.ownBlock := (World.grownBy_alloc w6 _ _).trans hgrow
      have HS8 := Lib.hid (wrg_other HS6.out hge g68 HLT4.out)
      have b8 : Below w.heap.size w w8 := below_row b6' (fun k hk => Nat.le_trans (Nat.le_of_lt hsz4) (hge k hk)) g68 (Nat.le_refl _)
      have HE : Hid (D4P w (.returned (.tuple #[.pointer (some ⟨w.heap.size, 0, none⟩), .int .i64 f, .slice a4 l.length cap4, v8])) w8) := Lib.hid (d4_end hsz4 hl1 (by omega) hlc HS8.out ho8 (by omega) b8)
      clear ho6 g46 HS6 hgrow hown' ho8 g8 g68 HS8
      go_wp2
      (try simp only [Exit.inBlock, Exit.then])
      refine bodyPost_ret (results_tmpZ rfl _ _ _) rfl ?_
      exact HE.out
end Go.Proofs.YtangofjpnhhfeabDoor
