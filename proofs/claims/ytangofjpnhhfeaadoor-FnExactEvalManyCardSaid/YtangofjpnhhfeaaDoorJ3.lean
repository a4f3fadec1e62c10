/-
  Texts of the proofs of this seat, joined (part 3).
-/
import Derived.Deep.AppendLies
import Derived.Deep.QuietTactic
import Derived.BigQuiet
import Derived.StillTailTactics
import Derived.Deep.RegionHeld3
import Derived.Test.YtangofjpnhhfeaaDoorJ2
namespace Go.Proofs.YtangofjpnhhfeaaDoor
open Go.RowKit
theorem own_owns {w : World} {g n base : Nat} {F : Nat → Int} (h : Own w g n F) (hg : base ≤ g) (hn : n ≤ 1048576) : w.ownsRow base 3 1 (.slice (some ⟨g, 0, none⟩) n n) n (xsF F n) := by
  obtain ⟨cur, h1, h2, h3⟩ := h
  refine ⟨by rw [xsF_len, Nat.mul_one], .inr ⟨g, n, cur, rfl, hg, h1, Nat.le_refl _, by unfold maxLen; omega, by omega, ?_⟩⟩
  rw [Nat.mul_one]
  refine List.ext_getElem? fun j => ?_
  by_cases hj : j < n
  · have h4 := h3 j hj
    rw [List.getElem?_take_of_lt hj]
    have h5 : cur.toList[j]? = cur[j]? := by simp
    rw [h5, h4]
    simp [xsF, hj]
  · rw [List.getElem?_eq_none (by rw [List.length_take]; omega), List.getElem?_eq_none (by rw [xsF_len]; omega)]
theorem OwnG.owns {w w' : World} {l : List Int} {e : Ending} (h : OwnG w l e w') (hl : l.length ≤ 1048576) : OwnsL w l e w' := by
  obtain ⟨g, rfl, hg, ho, hb⟩ := h
  exact ⟨_, rfl, own_owns ho hg hl, hb⟩
theorem ownsU_keep {w w' : World} {B n : Nat} {v : Value} {xs : List Value} (h : w.ownsRow B 3 1 v n xs) (hb : Below w.heap.size w w') : w'.ownsRow B 3 1 v n xs := h.kept (row := none) ⟨hb.os, hb.tape, hb.output, hb.size, fun i hi _ => hb.block i hi⟩ (by cases v.ownBlock <;> simp)
theorem ownsU_low {w : World} {B B' n : Nat} {v : Value} {xs : List Value} (h : w.ownsRow B 3 1 v n xs) (hB : B' ≤ B) : w.ownsRow B' 3 1 v n xs :=
  ⟨h.1, h.2.imp id fun ⟨g, cap, cur, h1, h2, h3⟩ => ⟨g, cap, cur, h1, Nat.le_trans hB h2, h3⟩⟩
theorem xsF_app (F G H : Nat → Int) (m k : Nat) (h1 : ∀ j, j < m → F j = H j) (h2 : ∀ j, j < k → G j = H (m + j)) : xsF F m ++ xsF G k = xsF H (m + k) := by
  unfold xsF
  rw [List.range_add, List.map_append, List.map_map]
  congr 1
  · exact List.map_congr_left fun j hj => by rw [h1 j (List.mem_range.1 hj)]
  · exact List.map_congr_left fun j hj => by show Value.int .i64 (G j) = Value.int .i64 (H (m + j)); rw [h2 j (List.mem_range.1 hj)]
theorem news_ow {w : World} {B n : Nat} {F : Nat → Int} {g cap : Nat} (h : w.ownsRow B 3 1 (.slice (some ⟨g, 0, none⟩) n cap) n (xsF F n)) (hn : n ≠ 0) : ∀ j u, (xsF F n)[j]? = some u → w.cell? ((⟨g, 0, none⟩ : Addr).add j) = some u := fun j u hu => by
  obtain ⟨hj, rfl⟩ := xsF_at hu
  obtain ⟨g2, cap2, e, _, ho⟩ := OwnV.of_owns h hn
  injection e with e1
  injection e1 with e1
  injection e1 with e1
  subst e1
  have hadd : (⟨g, 0, none⟩ : Addr).add j = ⟨g, j, none⟩ := by unfold Addr.add; split <;> simp_all
  rw [hadd]
  exact ho.cell hj
theorem values_nil (v : Value) (w : World) : Calls Tryd.prog 39 #[.pointer none, v] w fun e w' => e = .returned (.slice none 0 0) ∧ w = w' := by
  go_enter Tryd.func39, Tryd.ntmps39
  go_wp2
  go_ret
  exact ⟨rfl, rfl⟩
set_option maxRecDepth 100000 in
set_option maxHeartbeats 3200000 in
theorem values_leaf (f : Int) (h0 : 0 ≤ f) (h8 : f ≤ 8) (b g : Nat) (X : Nat → Int) (aa : Option Addr) (l : List Int) (cap : Nat) (w : World) (hN : NodeW w b f g 1 none none) (hO : Own w g 2 (lf (vanL f X 1))) (ht : Tab w) (hl : Pol f l) (hn : l.length ≤ 4096) (hs : Src w aa l.length (lf l)) :
    Calls Tryd.prog 39 #[.pointer (some ⟨b, 0, none⟩), .slice aa l.length cap] w (OwnsL w (valsL f X l 1)) := by
  have hv := vanL_len h0 h8 X 1
  have hleaf := leaf_val h0 h8 X hl
  have RM : Hid (∀ W, Below w.heap.size w W → Calls Tryd.prog 59 #[.int .i64 f, .slice aa l.length cap, .slice (some ⟨g, 0, none⟩) 2 2] W (OwnG W (remL f l (vanL f X 1)))) := Lib.hid fun W hb => by
    have := remainder_c f aa (some ⟨g, 0, none⟩) l (vanL f X 1) cap 2 W (ht.below hb) h0 h8 hn (by omega) (by omega) hl (vanL_pol h0 h8 _ _) (hs.keep hb) (by rw [hv]; exact (hO.keep hb).src)
    rwa [hv] at this
  have PD : Hid (∀ (g1 : Nat) (W W1 : World), Own W1 g1 (remL f l (vanL f X 1)).length (lf (remL f l (vanL f X 1))) → Calls Tryd.prog 60 #[.slice (some ⟨g1, 0, none⟩) (remL f l (vanL f X 1)).length (remL f l (vanL f X 1)).length, .int .i64 1] W1 (OwnG W1 (valsL f X l 1))) := Lib.hid fun g1 W W1 ho => by
    have := padded_c (some ⟨g1, 0, none⟩) (remL f l (vanL f X 1)) (remL f l (vanL f X 1)).length 1 W1 hleaf.1 (by omega) ho.src
    rwa [hleaf.2] at this
  have HF : Hid (∀ e W W', Below w.heap.size w W → OwnG W (valsL f X l 1) e W' → OwnsL w (valsL f X l 1) e W') := Lib.hid fun e W W' hb h => (h.up hb).owns (by rw [valsL_len]; omega)
  have b0 : Below w.heap.size w w.drew := (Below.refl _ _).drew
  have k0 : w.drew.cell? ⟨b, 0, none⟩ = some (.int .i64 f) ∧ w.drew.cell? ⟨b, 1, none⟩ = some (.slice (some ⟨g, 0, none⟩) 2 2) := ⟨hN.1, hN.2.1⟩
  clear hl hs hO ht hleaf hv hn
  generalize remL f l (vanL f X 1) = r at *
  generalize valsL f X l 1 = V at *
  generalize l.length = n at *
  go_enter Tryd.func39, Tryd.ntmps39
  go_wp2_with fail
  go_region_held3 (fun W1 => W1.cell? ⟨b, 0, none⟩ = some (.int .i64 f) ∧ W1.cell? ⟨b, 1, none⟩ = some (.slice (some ⟨g, 0, none⟩) 2 2))
    (first | exact ⟨hN.1, hN.2.1⟩ | exact k0 | exact k1 | go_keep)
    ((go_at_call 59; refine (RM.out _ b0).mono ?_; rintro e w1 ⟨g1, rfl, hg1, o1, b1⟩; have b2 := below_up b0 b1 b0.size; have hN1 := hN.keep b2 hN.lt; have k1 : w1.cell? ⟨b, 0, none⟩ = some (.int .i64 f) ∧ w1.cell? ⟨b, 1, none⟩ = some (.slice (some ⟨g, 0, none⟩) 2 2) := ⟨hN1.1, hN1.2.1⟩))
  have c2 := hN1.2.2.1
  clear k1 k0 hN
  go_wp2_with fail
  refine (PD.out g1 w w1 o1).mono ?_
  intro e w2 h2
  have HR := Lib.hid (HF.out _ _ _ b2 h2)
  obtain ⟨v, rfl, _⟩ := h2
  clear o1 PD HF
  go_wp2
  go_ret
  exact HR.out
set_option maxRecDepth 100000 in
set_option maxHeartbeats 6400000 in
theorem values_node (f : Int) (h0 : 0 ≤ f) (h8 : f ≤ 8) (b g m k : Nat) (p1 p2 : Addr) (X : Nat → Int) (aa : Option Addr) (l : List Int) (cap : Nat) (w : World) (m1 : 1 ≤ m) (k1 : 1 ≤ k) (h40 : m + k ≤ 40) (hN : NodeW w b f g (m + k) (some p1) (some p2)) (hO : Own w g (m + k + 1) (lf (vanL f X (m + k)))) (ht : Tab w) (hl : Pol f l) (hn : l.length ≤ 4096) (hs : Src w aa l.length (lf l))
    (VL : Hid (∀ (g1 : Nat) (W : World), Below w.heap.size w W → Own W g1 (remL f l (vanL f X (m + k))).length (lf (remL f l (vanL f X (m + k)))) → Calls Tryd.prog 39 #[.pointer (some p1), .slice (some ⟨g1, 0, none⟩) (remL f l (vanL f X (m + k))).length (remL f l (vanL f X (m + k))).length] W (OwnsL W (valsL f X l m))))
    (VR : Hid (∀ (g1 : Nat) (W : World), Below w.heap.size w W → Own W g1 (remL f l (vanL f X (m + k))).length (lf (remL f l (vanL f X (m + k)))) → Calls Tryd.prog 39 #[.pointer (some p2), .slice (some ⟨g1, 0, none⟩) (remL f l (vanL f X (m + k))).length (remL f l (vanL f X (m + k))).length] W (OwnsL W (valsL f (fun j => X (m + j)) l k)))) :
    Calls Tryd.prog 39 #[.pointer (some ⟨b, 0, none⟩), .slice aa l.length cap] w (OwnsL w (valsL f X l (m + k))) := by
  have hv := vanL_len h0 h8 X (m + k)
  have RM : Hid (∀ W, Below w.heap.size w W → Calls Tryd.prog 59 #[.int .i64 f, .slice aa l.length cap, .slice (some ⟨g, 0, none⟩) (m + k + 1) (m + k + 1)] W (OwnG W (remL f l (vanL f X (m + k))))) := Lib.hid fun W hb => by
    have := remainder_c f aa (some ⟨g, 0, none⟩) l (vanL f X (m + k)) cap (m + k + 1) W (ht.below hb) h0 h8 hn (by omega) (by omega) hl (vanL_pol h0 h8 _ _) (hs.keep hb) (by rw [hv]; exact (hO.keep hb).src)
    rwa [hv] at this
  have HF : Hid (∀ (v : Value) (W' : World), W'.ownsRow w.heap.size 3 1 v (m + k) (xsF (lf (valsL f X l m)) m ++ xsF (lf (valsL f (fun j => X (m + j)) l k)) k) → Below w.heap.size w W' → OwnsL w (valsL f X l (m + k)) (.returned v) W') := Lib.hid fun v W' h hb => by
    rw [xsF_app _ _ (lf (valsL f X l (m + k))) m k (fun j hj => by rw [lf_valsL hj, lf_valsL (by omega)]) (fun j hj => by rw [lf_valsL hj, lf_valsL (by omega)])] at h
    exact owns_to h (valsL_len _ _ _ _).symm (fun _ _ => rfl) hb
  have LL : Hid (∀ (W : World) (e : Ending) (w' : World), OwnsL W (valsL f X l m) e w' → ∃ g1 c1, e = .returned (.slice (some ⟨g1, 0, none⟩) m c1) ∧ W.heap.size ≤ g1 ∧ g1 < w'.heap.size ∧ w'.ownsRow W.heap.size 3 1 (.slice (some ⟨g1, 0, none⟩) m c1) m (xsF (lf (valsL f X l m)) m) ∧ Below W.heap.size W w') := Lib.hid fun W e w' h => by
    obtain ⟨v, rfl, ho, hb⟩ := h
    rw [valsL_len] at ho
    obtain ⟨g1, c1, rfl, hg, hlt⟩ := ho.form (by omega)
    exact ⟨g1, c1, rfl, hg, hlt, ho, hb⟩
  have LR : Hid (∀ (W : World) (e : Ending) (w' : World), OwnsL W (valsL f (fun j => X (m + j)) l k) e w' → ∃ g1 c1, e = .returned (.slice (some ⟨g1, 0, none⟩) k c1) ∧ W.heap.size ≤ g1 ∧ g1 < w'.heap.size ∧ w'.ownsRow W.heap.size 3 1 (.slice (some ⟨g1, 0, none⟩) k c1) k (xsF (lf (valsL f (fun j => X (m + j)) l k)) k) ∧ Below W.heap.size W w') := Lib.hid fun W e w' h => by
    obtain ⟨v, rfl, ho, hb⟩ := h
    rw [valsL_len] at ho
    obtain ⟨g1, c1, rfl, hg, hlt⟩ := ho.form (by omega)
    exact ⟨g1, c1, rfl, hg, hlt, ho, hb⟩
  have b0 : Below w.heap.size w w.drew := (Below.refl _ _).drew
  have k0 : w.drew.cell? ⟨b, 0, none⟩ = some (.int .i64 f) ∧ w.drew.cell? ⟨b, 1, none⟩ = some (.slice (some ⟨g, 0, none⟩) (m + k + 1) (m + k + 1)) := ⟨hN.1, hN.2.1⟩
  obtain ⟨i0, hi0, hz, hz1, hz2⟩ := info_parts info3
  have HI := Lib.hid hi0
  have HZ0 := Lib.hid hz
  have HZ1 := Lib.hid hz1
  have HZ2 := Lib.hid hz2
  clear hl hs hO ht hv hn hi0 hz hz1 hz2
  generalize remL f l (vanL f X (m + k)) = r at *
  generalize valsL f X l (m + k) = V at *
  generalize valsL f X l m = V1 at *
  generalize valsL f (fun j => X (m + j)) l k = V2 at *
  generalize l.length = n at *
  go_enter Tryd.func39, Tryd.ntmps39
  go_wp2_with fail
  go_region_held3 (fun W1 => W1.cell? ⟨b, 0, none⟩ = some (.int .i64 f) ∧ W1.cell? ⟨b, 1, none⟩ = some (.slice (some ⟨g, 0, none⟩) (m + k + 1) (m + k + 1)))
    (first | exact ⟨hN.1, hN.2.1⟩ | exact k0 | exact k1 | go_keep)
    ((go_at_call 59; refine (RM.out _ b0).mono ?_; rintro e w1 ⟨g1, rfl, hg1, o1, b1⟩; have b2 := below_up b0 b1 b0.size; have hN1 := hN.keep b2 hN.lt; have k1 : w1.cell? ⟨b, 0, none⟩ = some (.int .i64 f) ∧ w1.cell? ⟨b, 1, none⟩ = some (.slice (some ⟨g, 0, none⟩) (m + k + 1) (m + k + 1)) := ⟨hN1.1, hN1.2.1⟩))
  have c2 := hN1.2.2.1
  have c3 := hN1.2.2.2
  have lb := hN1.lt
  have b3 : Below w.heap.size w w1.drew := b2.drew
  have o2 : Own w1.drew g1 r.length (lf r) := o1
  have k2 : w1.drew.cell? ⟨b, 2, none⟩ = some (.pointer (some p1)) ∧ w1.drew.cell? ⟨b, 3, none⟩ = some (.pointer (some p2)) := ⟨c2, c3⟩
  have tok1 : True := trivial
  clear k1 k0 hN1 RM b0 b1
  go_wp2_with fail
  go_region_held3 (fun W1 => W1.cell? ⟨b, 2, none⟩ = some (.pointer (some p1)) ∧ W1.cell? ⟨b, 3, none⟩ = some (.pointer (some p2)))
    (first | exact ⟨c2, c3⟩ | exact k2 | exact k3 | exact k4 | exact k5 | go_keep)
    (first
      | (go_at_call 39; clear tok1; refine (VL.out g1 _ b3 o2).mono ?_; intro e w3 h3; obtain ⟨g3, q3, rfl, hg3, l3, o3, b4⟩ := LL.out _ _ _ h3; clear h3; have b5 := below_up b3 b4 b3.size; have o4 := o2.keep b4; have hk3 := hN.keep b5 hN.lt; have k3 : w3.cell? ⟨b, 2, none⟩ = some (.pointer (some p1)) ∧ w3.cell? ⟨b, 3, none⟩ = some (.pointer (some p2)) := ⟨hk3.2.2.1, hk3.2.2.2⟩)
      | (go_at_call 39; refine (VR.out g1 _ b5 o4).mono ?_; intro e w4 h4; obtain ⟨g4, q4, rfl, hg4, l4, o5, b6⟩ := LR.out _ _ _ h4; clear h4; have b7 := below_up b5 b6 b5.size; have o6 := ownsU_low (ownsU_keep o3 b6) (B' := w.heap.size) b3.size; have hk4 := hN.keep b7 hN.lt; have k4 : w4.cell? ⟨b, 2, none⟩ = some (.pointer (some p1)) ∧ w4.cell? ⟨b, 3, none⟩ = some (.pointer (some p2)) := ⟨hk4.2.2.1, hk4.2.2.2⟩)
      | (refine step_append_lies _ (by rfl) _ _ _ (by rfl) w.heap.size 3 i0 _ 1 8 Tryd.underlying22 HI.out HZ0.out HZ1.out HZ2.out rfl (by omega) _ m _ (by rfl) o6 ⟨g4, 0, none⟩ k q4 (xsF (lf V2) k) (by rfl) (by rw [xsF_len, Nat.mul_one]) (news_ow o5 (by omega)) xsF_one (by omega) (by unfold maxLen; omega) (by omega) b7.size w4.heap.size rfl ?_; intro g5 q5 w5 o7 hgrow hat hlt'; have lb2 := hN.lt; have sz3 := b3.size; have sz7 := b7.size; have k5 : w5.cell? ⟨b, 2, none⟩ = some (.pointer (some p1)) ∧ w5.cell? ⟨b, 3, none⟩ = some (.pointer (some p2)) := ⟨(hgrow.cell_far ⟨b, 2, none⟩ (by show b < _; omega) (by show some b ≠ some g3; intro e; injection e with e; omega)).trans k4.1, (hgrow.cell_far ⟨b, 3, none⟩ (by show b < _; omega) (by show some b ≠ some g3; intro e; injection e with e; omega)).trans k4.2⟩))
  have HR := Lib.hid (HF.out _ w5 o7 (b7.grown hgrow b7.size (own_ge o6)))
  clear k2 k3 k4 k5 o7 hgrow hat o5 o6 o4 o2 HF VL VR LL LR
  go_wp2
  go_ret
  exact HR.out
theorem values_c (f : Int) (h0 : 0 ≤ f) (h8 : f ≤ 8) : ∀ (d : Nat) (p : Option Addr) (X : Nat → Int) (n : Nat) (aa : Option Addr) (l : List Int) (cap : Nat) (w : World), TreeW f w d p X n → n ≤ 40 → Tab w → Pol f l → l.length ≤ 4096 → Src w aa l.length (lf l) → Calls Tryd.prog 39 #[.pointer p, .slice aa l.length cap] w (OwnsL w (valsL f X l n)) := by
  intro d
  induction d with
  | zero => intro p X n aa l cap w h; exact absurd h (by intro h; exact h)
  | succ d ih =>
    rintro p X n aa l cap w ⟨b, g, pl, pr, rfl, hN, hO, hb⟩ h40 ht hl hn hs
    rcases hb with ⟨rfl, rfl, rfl⟩ | ⟨m, k, rfl, m1, k1, hL, hR⟩
    · exact values_leaf f h0 h8 b g X aa l cap w hN hO ht hl hn hs
    · have hv := vanL_len h0 h8 X (m + k)
      have hlen := remL_len (f := f) (a := l) (b := vanL f X (m + k)) (by omega)
      have hpol := remL_pol h0 h8 hl (vanL_pol h0 h8 X (m + k)) (by omega)
      have hp1 : ∃ q, pl = some q := by
        cases d with
        | zero => exact absurd hL (by intro h; exact h)
        | succ d => obtain ⟨q, _, _, _, h, _⟩ := hL; exact ⟨_, h⟩
      have hp2 : ∃ q, pr = some q := by
        cases d with
        | zero => exact absurd hR (by intro h; exact h)
        | succ d => obtain ⟨q, _, _, _, h, _⟩ := hR; exact ⟨_, h⟩
      obtain ⟨p1, rfl⟩ := hp1
      obtain ⟨p2, rfl⟩ := hp2
      refine values_node f h0 h8 b g m k p1 p2 X aa l cap w m1 k1 h40 hN hO ht hl hn hs (Lib.hid fun g1 W hb ho => ?_) (Lib.hid fun g1 W hb ho => ?_)
      · have h1 := ih (some p1) X m (some ⟨g1, 0, none⟩) (remL f l (vanL f X (m + k))) (remL f l (vanL f X (m + k))).length W (hL.keep hb) (by omega) (ht.below hb) hpol (by omega) ho.src
        rwa [valsL_rem h0 h8 X hl (by omega)] at h1
      · have h1 := ih (some p2) (fun j => X (m + j)) k (some ⟨g1, 0, none⟩) (remL f l (vanL f X (m + k))) (remL f l (vanL f X (m + k))).length W (hR.keep hb) (by omega) (ht.below hb) hpol (by omega) ho.src
        rwa [valsL_part h0 h8 X hl] at h1
end Go.Proofs.YtangofjpnhhfeaaDoor
namespace Go.Proofs.YtangofjpnhhfeaaDoor
open Go.RowKit
theorem Src.congr {w : World} {a : Option Addr} {n : Nat} {F G : Nat → Int} (h : Src w a n F) (e : ∀ j, j < n → F j = G j) : Src w a n G := by
  refine h.imp id ?_
  rintro ⟨b, off, e1, hlt, hc⟩
  exact ⟨b, off, e1, hlt, fun j hj => by rw [hc j hj, e j hj]⟩
end Go.Proofs.YtangofjpnhhfeaaDoor
namespace Go.Proofs.YtangofjpnhhfeaaDoor
open Go.RowKit
set_option maxRecDepth 100000 in
set_option maxHeartbeats 1600000 in
theorem pointwise_some (f : Int) (b off b2 off2 n cap cap2 : Nat) (A B : Nat → Int) (w : World) (ht : Tab w) (h0 : 0 ≤ f) (h8 : f ≤ 8) (hn : n ≤ 1048576) (hA : ∀ j, 0 ≤ A j ∧ A j < P f) (hB : ∀ j, 0 ≤ B j ∧ B j < P f) (hlt : b < w.heap.size) (hlt2 : b2 < w.heap.size)
    (hc : ∀ j, j < n → w.cell? ⟨b, off + j, none⟩ = some (.int .i64 (A j))) (hc2 : ∀ j, j < n → w.cell? ⟨b2, off2 + j, none⟩ = some (.int .i64 (B j))) :
    Calls Tryd.prog 64 #[.int .i64 f, .slice (some ⟨b, off, none⟩) n cap, .slice (some ⟨b2, off2, none⟩) n cap2] w (CopyP w n (fun j => RS (A j * B j) (P f))) := by
  have HC := Lib.hid hc
  have HC2 := Lib.hid hc2
  have HA := Lib.hid hA
  have HB := Lib.hid hB
  clear hc hc2 hA hB
  have hmk := made_n n hn
  go_enter Tryd.func64, Tryd.ntmps64
  go_wp2_with fail
  clear hmk
  go_loopw [8, 9, 15] (fun _ _ i wr => ∃ j : Nat, i = .int .i64 j ∧ j ≤ n ∧ Own wr w.heap.size n (fun x => if x < j then RS (A x * B x) (P f) else 0) ∧ Below w.heap.size w wr) (fun _ _ i _ => n - (intOf i).toNat)
  case atStart =>
    refine ⟨0, rfl, Nat.zero_le _, ?_, (Below.refl _ _).alloc (Nat.le_refl _) _⟩
    exact (World.rowIs_made w (.int .i64 0) n 3).congr fun j _ => by simp
  case round =>
    obtain ⟨j, rfl, hj, ho, hb⟩ := hrel
    by_cases h1 : j < n
    · have c1 : wr.cell? ⟨b, off + j, none⟩ = some (.int .i64 (A j)) := (hb.cell (p := ⟨b, off + j, none⟩) hlt).trans (HC.out j h1)
      have c2 : wr.cell? ⟨b2, off2 + j, none⟩ = some (.int .i64 (B j)) := (hb.cell (p := ⟨b2, off2 + j, none⟩) hlt2).trans (HC2.out j h1)
      have hd1 : decide ((j : Int) < n) = true := decide_eq_true (by omega)
      have HS := Lib.hid (copy_set (w := w) (F := fun x => RS (A x * B x) (P f)) ho)
      have c3 := World.rowIs.cell ho h1
      have c4 := World.rowIs.frozen ho j
      have hAj := HA.out j
      have hBj := HB.out j
      clear ho
      go_wp2_with fail
      refine (mul_c f (A j) (B j) wr (ht.below hb) h0 h8 hAj.1 hAj.2 hBj.1 hBj.2).mono ?_
      rintro e w' ⟨rfl, rfl⟩
      go_wp2
      go_roundw
      case rel => exact ⟨j + 1, by go_num, by omega, HS.out, hb.setCell (Nat.le_refl _) _⟩
      case measure => simp [intOf]; omega
    · have hd : decide (j < n) = false := by simpa using h1
      obtain rfl : j = n := by omega
      go_wp2
      go_ret
      exact ⟨rfl, World.rowIs.congr ho (fun x hx => by simp [hx]), hb⟩
end Go.Proofs.YtangofjpnhhfeaaDoor
namespace Go.Proofs.YtangofjpnhhfeaaDoor
open Go.RowKit
theorem inv_bd {f x : Int} (h0 : 0 ≤ f) (h8 : f ≤ 8) (x0 : 0 < x) (x1 : x < P f) : 0 ≤ mPower f x (-1) ∧ mPower f x (-1) < P f := by
  have := (inv_one h0 h8 (z := x) (by unfold RS; rw [Int.emod_eq_of_lt (by omega) x1]; omega)).2
  omega
end Go.Proofs.YtangofjpnhhfeaaDoor
namespace Go.Proofs.YtangofjpnhhfeaaDoor
open Go.RowKit
/-- The barycentric weights. -/
def wtX (f : Int) (X : Nat → Int) (n : Nat) : List Int := tab n fun i => mPower f (byF f X i n) (-1)
theorem wtX_len (f : Int) (X : Nat → Int) (n : Nat) : (wtX f X n).length = n := tab_len _ _
theorem OwnsL.form {w w' : World} {l : List Int} {e : Ending} (h : OwnsL w l e w') (n1 : 1 ≤ l.length) : ∃ g c, e = .returned (.slice (some ⟨g, 0, none⟩) l.length c) ∧ w.heap.size ≤ g ∧ Src w' (some ⟨g, 0, none⟩) l.length (lf l) ∧ Below w.heap.size w w' := by
  obtain ⟨v, rfl, ho, hb⟩ := h
  obtain ⟨g, c, rfl, hg, hv⟩ := OwnV.of_owns ho (by omega)
  exact ⟨g, c, rfl, hg, hv.src, hb⟩
set_option maxRecDepth 100000 in
set_option maxHeartbeats 3200000 in
theorem weights_c (f : Int) (h0 : 0 ≤ f) (h8 : f ≤ 8) (d b g n : Nat) (pl pr : Option Addr) (X : Nat → Int) (w : World) (hT : TreeW f w d (some ⟨b, 0, none⟩) X n) (hN : NodeW w b f g n pl pr) (hO : Own w g (n + 1) (lf (vanL f X n))) (n1 : 1 ≤ n) (h40 : n ≤ 40) (ht : Tab w) (hd : DistinctS f X n) :
    Calls Tryd.prog 48 #[.pointer (some ⟨b, 0, none⟩)] w (OwnG w (wtX f X n)) := by
  have hv := vanL_len h0 h8 X n
  have hdl := derL_le f (vanL f X n)
  have hdp := pol_derL h0 h8 (vanL f X n)
  have PD : Hid (∀ W, Below w.heap.size w W → Calls Tryd.prog 70 #[.int .i64 f, .slice (some ⟨g, 0, none⟩) (n + 1) (n + 1)] W (OwnG W (derL f (vanL f X n)))) := Lib.hid fun W hb => by
    have := der_c f (some ⟨g, 0, none⟩) (vanL f X n) (n + 1) W (ht.below hb) h0 h8 (by omega) (vanL_pol h0 h8 _ _) (by rw [hv]; exact (hO.keep hb).src)
    rwa [hv] at this
  have PV : Hid (∀ (g1 : Nat) W, Below w.heap.size w W → Own W g1 (derL f (vanL f X n)).length (lf (derL f (vanL f X n))) → Calls Tryd.prog 39 #[.pointer (some ⟨b, 0, none⟩), .slice (some ⟨g1, 0, none⟩) (derL f (vanL f X n)).length (derL f (vanL f X n)).length] W (fun e w' => ∃ g2 c2, e = .returned (.slice (some ⟨g2, 0, none⟩) n c2) ∧ Src w' (some ⟨g2, 0, none⟩) n (fun j => evL f (X j) (derL f (vanL f X n))) ∧ Below W.heap.size W w')) := Lib.hid fun g1 W hb ho => by
    refine (values_c f h0 h8 d _ X n (some ⟨g1, 0, none⟩) (derL f (vanL f X n)) _ W (hT.keep hb) h40 (ht.below hb) hdp (by omega) ho.src).mono fun e w' h => ?_
    obtain ⟨g2, c2, h1, h2, h3, h4⟩ := h.form (by rw [valsL_len]; exact n1)
    rw [valsL_len] at h1 h3
    refine ⟨g2, c2, h1, ?_, h4⟩
    rcases h3 with h3 | ⟨b3, o3, e3, l3, c3⟩
    · exact .inl h3
    · exact .inr ⟨b3, o3, e3, l3, fun j hj => by rw [c3 j hj, lf_valsL hj]⟩
  have PI : Hid (∀ (g2 c2 : Nat) W, Below w.heap.size w W → Src W (some ⟨g2, 0, none⟩) n (fun j => evL f (X j) (derL f (vanL f X n))) → Calls Tryd.prog 69 #[.int .i64 f, .slice (some ⟨g2, 0, none⟩) n c2] W (OwnG W (wtX f X n))) := Lib.hid fun g2 c2 W hb hs => by
    refine (inverses_c f (some ⟨g2, 0, none⟩) n c2 _ W (ht.below hb) h0 h8 (by omega) hs).mono fun e w' h => ?_
    obtain ⟨h1, h2, h3⟩ := h
    subst h1
    exact OwnG.of_own h2 (wtX_len f X n).symm (Nat.le_refl _) (fun j hj => by unfold wtX; rw [lf_tab, if_pos hj]; exact inv_van h0 h8 hd hj) h3
  have b0 : Below w.heap.size w w.drew := (Below.refl _ _).drew
  have k0 : w.drew.cell? ⟨b, 0, none⟩ = some (.int .i64 f) ∧ w.drew.cell? ⟨b, 1, none⟩ = some (.slice (some ⟨g, 0, none⟩) (n + 1) (n + 1)) := ⟨hN.1, hN.2.1⟩
  have HF : Hid (∀ e W W', Below w.heap.size w W → OwnG W (wtX f X n) e W' → OwnG w (wtX f X n) e W') := Lib.hid fun e W W' hb h => h.up hb
  clear hT hO ht hd hv hdl hdp
  generalize derL f (vanL f X n) = D at *
  generalize wtX f X n = V at *
  go_enter Tryd.func48, Tryd.ntmps48
  go_wp2_with fail
  go_region_held3 (fun W1 => W1.cell? ⟨b, 0, none⟩ = some (.int .i64 f) ∧ W1.cell? ⟨b, 1, none⟩ = some (.slice (some ⟨g, 0, none⟩) (n + 1) (n + 1)))
    (first | exact ⟨hN.1, hN.2.1⟩ | exact k0 | exact k1 | exact k2 | exact k3 | go_keep)
    (first
      | (go_at_call 70; refine (PD.out _ b0).mono ?_; rintro e w1 ⟨g1, rfl, hg1, o1, b1⟩; have b2 := below_up b0 b1 b0.size; have hN1 := hN.keep b2 hN.lt; have k1 : w1.cell? ⟨b, 0, none⟩ = some (.int .i64 f) ∧ w1.cell? ⟨b, 1, none⟩ = some (.slice (some ⟨g, 0, none⟩) (n + 1) (n + 1)) := ⟨hN1.1, hN1.2.1⟩)
      | (go_at_call 39; refine (PV.out g1 _ b2 o1).mono ?_; rintro e w2 ⟨g2, c2, rfl, s2, b3⟩; have b4 := below_up b2 b3 b2.size; have hN2 := hN.keep b4 hN.lt; have k2 : w2.cell? ⟨b, 0, none⟩ = some (.int .i64 f) ∧ w2.cell? ⟨b, 1, none⟩ = some (.slice (some ⟨g, 0, none⟩) (n + 1) (n + 1)) := ⟨hN2.1, hN2.2.1⟩)
      | (go_at_call 69; refine (PI.out g2 c2 _ b4 s2).mono ?_; intro e w3 h3; have HR := Lib.hid (HF.out _ _ _ b4 h3); obtain ⟨g3, rfl, hg3, o3, b5⟩ := h3; have b6 := below_up b4 b5 b4.size; have hN3 := hN.keep b6 hN.lt; have k3 : w3.cell? ⟨b, 0, none⟩ = some (.int .i64 f) ∧ w3.cell? ⟨b, 1, none⟩ = some (.slice (some ⟨g, 0, none⟩) (n + 1) (n + 1)) := ⟨hN3.1, hN3.2.1⟩))
  clear k0 k1 k2 k3 hN hN1 hN2 hN3 o1 s2 o3 PD PV PI HF b1 b3 b5
  go_wp2
  go_ret
  exact HR.out
def CombP (f : Int) (X S : Nat → Int) (n : Nat) (w : World) (e : Ending) (w' : World) : Prop := ∃ c, CombAt f X S n c ∧ OwnG w c e w'
set_option maxRecDepth 100000 in
theorem comb_leaf_c (f : Int) (h0 : 0 ≤ f) (h8 : f ≤ 8) (b g : Nat) (X S : Nat → Int) (aa : Option Addr) (cap : Nat) (w : World) (hN : NodeW w b f g 1 none none) (hS : 0 ≤ S 0 ∧ S 0 < P f) (hs : Src w aa 1 S) :
    Calls Tryd.prog 63 #[.pointer (some ⟨b, 0, none⟩), .slice aa 1 cap] w (CombP f X S 1 w) := by
  have PP : Hid (Calls Tryd.prog 52 #[.slice aa 1 cap] w (CombP f X S 1 w)) := Lib.hid ((poly_c aa 1 cap S w (by omega) hs).mono fun e w' h => ⟨_, by
    have := comb_leaf h0 h8 X S hS
    rwa [cutL_congr (G := S) (fun j hj => by obtain rfl : j = 0 := by omega
                                             rfl)] at this, h⟩)
  have c2 := hN.2.2.1
  clear hN hs hS
  go_enter Tryd.func63, Tryd.ntmps63
  go_wp2_with fail
  refine PP.out.mono ?_
  intro e w1 h1
  have HR := Lib.hid h1
  obtain ⟨c, _, g1, rfl, _⟩ := h1
  go_wp2
  go_ret
  exact HR.out
set_option maxRecDepth 100000 in
set_option maxHeartbeats 6400000 in
theorem comb_node_c (f : Int) (h0 : 0 ≤ f) (h8 : f ≤ 8) (b g n m k b1 g1 b2 g2 ba off cap : Nat) (pl1 pr1 pl2 pr2 : Option Addr) (X S : Nat → Int) (w : World) (m1 : 1 ≤ m) (k1 : 1 ≤ k) (hnm : n = m + k) (h40 : n ≤ 40) (hcap : n ≤ cap) (hN : NodeW w b f g n (some ⟨b1, 0, none⟩) (some ⟨b2, 0, none⟩))
    (hN1 : NodeW w b1 f g1 m pl1 pr1) (hN2 : NodeW w b2 f g2 k pl2 pr2) (hO1 : Own w g1 (m + 1) (lf (vanL f X m))) (hO2 : Own w g2 (k + 1) (lf (vanL f (fun j => X (m + j)) k))) (ht : Tab w)
    (CL : Hid (∀ W, Below w.heap.size w W → Calls Tryd.prog 63 #[.pointer (some ⟨b1, 0, none⟩), .slice (some ⟨ba, off, none⟩) m cap] W (CombP f X S m W)))
    (CR : Hid (∀ W, Below w.heap.size w W → Calls Tryd.prog 63 #[.pointer (some ⟨b2, 0, none⟩), .slice (some ⟨ba, off + m, none⟩) (n - m) (cap - m)] W (CombP f (fun j => X (m + j)) (fun j => S (m + j)) k W))) :
    Calls Tryd.prog 63 #[.pointer (some ⟨b, 0, none⟩), .slice (some ⟨ba, off, none⟩) n cap] w (CombP f X S n w) := by
  have v1 := vanL_len h0 h8 X m
  have v2 := vanL_len h0 h8 (fun j => X (m + j)) k
  have P1 : Hid (∀ (c : List Int) (g3 : Nat) W, CombAt f X S m c → Below w.heap.size w W → Own W g3 c.length (lf c) → Calls Tryd.prog 56 #[.int .i64 f, .slice (some ⟨g3, 0, none⟩) c.length c.length, .slice (some ⟨g2, 0, none⟩) (k + 1) (k + 1)] W (OwnG W (mulL f c (vanL f (fun j => X (m + j)) k)))) := Lib.hid fun c g3 W hc hb ho => by
    have := product_c f (some ⟨g3, 0, none⟩) (some ⟨g2, 0, none⟩) c (vanL f (fun j => X (m + j)) k) c.length (k + 1) W (ht.below hb) h0 h8 (by have := hc.2.1; omega) (by omega) hc.1 (vanL_pol h0 h8 _ _) ho.src (by rw [v2]; exact (hO2.keep hb).src)
    rwa [v2] at this
  have P2 : Hid (∀ (c : List Int) (g3 : Nat) W, CombAt f (fun j => X (m + j)) (fun j => S (m + j)) k c → Below w.heap.size w W → Own W g3 c.length (lf c) → Calls Tryd.prog 56 #[.int .i64 f, .slice (some ⟨g1, 0, none⟩) (m + 1) (m + 1), .slice (some ⟨g3, 0, none⟩) c.length c.length] W (OwnG W (mulL f (vanL f X m) c))) := Lib.hid fun c g3 W hc hb ho => by
    have := product_c f (some ⟨g1, 0, none⟩) (some ⟨g3, 0, none⟩) (vanL f X m) c (m + 1) c.length W (ht.below hb) h0 h8 (by omega) (by have := hc.2.1; omega) (vanL_pol h0 h8 _ _) hc.1 (by rw [v1]; exact (hO1.keep hb).src) ho.src
    rwa [v1] at this
  have PS : Hid (∀ (c e : List Int) (g3 g4 : Nat) W, CombAt f X S m c → CombAt f (fun j => X (m + j)) (fun j => S (m + j)) k e → Below w.heap.size w W → Own W g3 (mulL f c (vanL f (fun j => X (m + j)) k)).length (lf (mulL f c (vanL f (fun j => X (m + j)) k))) → Own W g4 (mulL f (vanL f X m) e).length (lf (mulL f (vanL f X m) e)) → Calls Tryd.prog 75 #[.int .i64 f, .slice (some ⟨g3, 0, none⟩) (mulL f c (vanL f (fun j => X (m + j)) k)).length (mulL f c (vanL f (fun j => X (m + j)) k)).length, .slice (some ⟨g4, 0, none⟩) (mulL f (vanL f X m) e).length (mulL f (vanL f X m) e).length] W (CombP f X S n W)) := Lib.hid fun c e g3 g4 W hc he hb o3 o4 => by
    have l1 := mulL_le f c (vanL f (fun j => X (m + j)) k)
    have l2 := mulL_le f (vanL f X m) e
    have l3 := hc.2.1
    have l4 := he.2.1
    refine (sum_c f _ _ _ _ _ _ W (ht.below hb) h0 h8 (by omega) (by omega) (pol_mulL h0 h8 _ _) (pol_mulL h0 h8 _ _) o3.src o4.src).mono fun _ _ h => ⟨_, ?_, h⟩
    subst hnm
    exact comb_node h0 h8 m1 k1 hc he
  have HF : Hid (∀ e W W', Below w.heap.size w W → CombP f X S n W e W' → CombP f X S n w e W') := Lib.hid fun e W W' hb ⟨c, h1, h2⟩ => ⟨c, h1, h2.up hb⟩
  have b0 : Below w.heap.size w w.drew := (Below.refl _ _).drew
  have a0 : w.cell? ⟨b, 0, none⟩ = some (.int .i64 f) := hN.1
  have a2 : w.cell? ⟨b, 2, none⟩ = some (.pointer (some ⟨b1, 0, none⟩)) := hN.2.2.1
  have a3 : w.cell? ⟨b, 3, none⟩ = some (.pointer (some ⟨b2, 0, none⟩)) := hN.2.2.2
  have a4 : w.cell? ⟨b1, 1, none⟩ = some (.slice (some ⟨g1, 0, none⟩) (m + 1) (m + 1)) := hN1.2.1
  have a5 : w.cell? ⟨b2, 1, none⟩ = some (.slice (some ⟨g2, 0, none⟩) (k + 1) (k + 1)) := hN2.2.1
  have kk : Hid (∀ W, Below w.heap.size w W → W.cell? ⟨b, 2, none⟩ = some (.pointer (some ⟨b1, 0, none⟩)) ∧ W.cell? ⟨b, 3, none⟩ = some (.pointer (some ⟨b2, 0, none⟩)) ∧ W.cell? ⟨b1, 1, none⟩ = some (.slice (some ⟨g1, 0, none⟩) (m + 1) (m + 1)) ∧ W.cell? ⟨b2, 1, none⟩ = some (.slice (some ⟨g2, 0, none⟩) (k + 1) (k + 1))) := Lib.hid fun W hb => ⟨(hN.keep hb hN.lt).2.2.1, (hN.keep hb hN.lt).2.2.2, (hN1.keep hb hN1.lt).2.1, (hN2.keep hb hN2.lt).2.1⟩
  have tok1 : True := trivial
  have tok2 : True := trivial
  have m0 : (0 : Int) ≤ (m : Int) := by omega
  have m2 : (m : Int) ≤ n := by omega
  have m3 : (n : Int) ≤ cap := by omega
  have m4 : (m : Int) ≤ cap := by omega
  have m5 : ¬ cap = m := by omega
  have m6 : ¬ m = 0 := by omega
  clear ht hO1 hO2 hN hN1 hN2 v1 v2 hnm hcap
  generalize vanL f X m = V1 at *
  generalize vanL f (fun j => X (m + j)) k = V2 at *
  go_enter Tryd.func63, Tryd.ntmps63
  go_wp2_with fail
  have k0 := kk.out _ (Below.refl _ _)
  have k1 := kk.out _ b0
  go_region_held3 (fun W1 => W1.cell? ⟨b, 2, none⟩ = some (.pointer (some ⟨b1, 0, none⟩)) ∧ W1.cell? ⟨b, 3, none⟩ = some (.pointer (some ⟨b2, 0, none⟩)) ∧ W1.cell? ⟨b1, 1, none⟩ = some (.slice (some ⟨g1, 0, none⟩) (m + 1) (m + 1)) ∧ W1.cell? ⟨b2, 1, none⟩ = some (.slice (some ⟨g2, 0, none⟩) (k + 1) (k + 1)))
    (first | exact k0 | exact k1 | exact k2 | exact k3 | go_keep)
    (first
      | (go_at_call 63; clear tok1; refine (CL.out _ b0).mono ?_; rintro e w1 ⟨cl, hcl, g3, rfl, hg3, o3, b3⟩; have b4 := below_up b0 b3 b0.size; have k2 := kk.out _ b4)
      | (go_at_call 63; refine (CR.out _ b4).mono ?_; rintro e w2 ⟨cr, hcr, g4, rfl, hg4, o4, b5⟩; have b6 := below_up b4 b5 b4.size; have k3 := kk.out _ b6))
  have o5 : Own w2.drew g3 cl.length (lf cl) := o3.keep b5.drew
  have o6 : Own w2.drew g4 cr.length (lf cr) := o4
  have b7 : Below w.heap.size w w2.drew := b6.drew
  have k4 := kk.out _ b7
  clear k0 k1 k2 a0 a2 a3 a4 a5 CL CR b0 b3 b4 b5 o3 o4
  go_wp2_with fail
  go_region_held3 (fun W1 => W1.cell? ⟨b, 2, none⟩ = some (.pointer (some ⟨b1, 0, none⟩)) ∧ W1.cell? ⟨b, 3, none⟩ = some (.pointer (some ⟨b2, 0, none⟩)) ∧ W1.cell? ⟨b1, 1, none⟩ = some (.slice (some ⟨g1, 0, none⟩) (m + 1) (m + 1)) ∧ W1.cell? ⟨b2, 1, none⟩ = some (.slice (some ⟨g2, 0, none⟩) (k + 1) (k + 1)))
    (first | exact k3 | exact k4 | exact k5 | exact k6 | exact k7 | go_keep)
    (first
      | (go_at_call 56; clear tok2; refine (P1.out cl g3 _ hcl b7 o5).mono ?_; rintro e w3 ⟨g5, rfl, hg5, o7, b8⟩; have b9 := below_up b7 b8 b7.size; have k5 := kk.out _ b9; have o8 := o6.keep b8)
      | (go_at_call 56; refine (P2.out cr g4 _ hcr b9 o8).mono ?_; rintro e w4 ⟨g6, rfl, hg6, o9, b10⟩; have b11 := below_up b9 b10 b9.size; have k6 := kk.out _ b11; have o10 := o7.keep b10)
      | (go_at_call 75; refine (PS.out cl cr g5 g6 _ hcl hcr b11 o10 o9).mono ?_; intro e w5 h5; have HR := Lib.hid (HF.out _ _ _ b11 h5); obtain ⟨c5, _, g7, rfl, _, _, b12⟩ := h5; have k7 := kk.out _ (below_up b11 b12 b11.size)))
  clear k3 k4 k5 k6 k7 o5 o6 o7 o8 o9 o10 P1 P2 PS HF kk b7 b8 b9 b10 b11 b12
  go_wp2
  go_ret
  exact HR.out
theorem comb_c (f : Int) (h0 : 0 ≤ f) (h8 : f ≤ 8) : ∀ (d : Nat) (p : Option Addr) (X S : Nat → Int) (n : Nat) (aa : Option Addr) (cap : Nat) (w : World), TreeW f w d p X n → 1 ≤ n → n ≤ 40 → n ≤ cap → Tab w → (∀ j, j < n → 0 ≤ S j ∧ S j < P f) → Src w aa n S → Calls Tryd.prog 63 #[.pointer p, .slice aa n cap] w (CombP f X S n w) := by
  intro d
  induction d with
  | zero => intro p X S n aa cap w h; exact absurd h (by intro h; exact h)
  | succ d ih =>
    rintro p X S n aa cap w ⟨b, g, pl, pr, rfl, hN, hO, hb⟩ n1 h40 hcap ht hS hs
    rcases hb with ⟨rfl, rfl, rfl⟩ | ⟨m, k, rfl, m1, k1, hL, hR⟩
    · exact comb_leaf_c f h0 h8 b g X S aa cap w hN (hS 0 (by omega)) hs
    · obtain ⟨ba, off, rfl, hlt, hc⟩ : ∃ ba off, aa = some ⟨ba, off, none⟩ ∧ ba < w.heap.size ∧ ∀ j, j < m + k → w.cell? ⟨ba, off + j, none⟩ = some (.int .i64 (S j)) := by
        rcases hs with h | h
        · omega
        · exact h
      have hL0 := hL
      have hR0 := hR
      cases d with
      | zero => exact absurd hL (by intro h; exact h)
      | succ d =>
        obtain ⟨b1, g1, pl1, pr1, rfl, hN1, hO1, _⟩ := hL0
        obtain ⟨b2, g2, pl2, pr2, rfl, hN2, hO2, _⟩ := hR0
        refine comb_node_c f h0 h8 b g (m + k) m k b1 g1 b2 g2 ba off cap pl1 pr1 pl2 pr2 X S w m1 k1 rfl h40 hcap hN hN1 hN2 hO1 hO2 ht (Lib.hid fun W hb => ?_) (Lib.hid fun W hb => ?_)
        · exact ih _ X S m _ cap W (hL.keep hb) m1 (by omega) (by omega) (ht.below hb) (fun j hj => hS j (by omega)) (.inr ⟨ba, off, rfl, Nat.lt_of_lt_of_le hlt hb.size, fun j hj => (hb.cell (p := ⟨ba, off + j, none⟩) hlt).trans (hc j (by omega))⟩)
        · rw [show m + k - m = k by omega]
          exact ih _ (fun j => X (m + j)) (fun j => S (m + j)) k _ (cap - m) W (hR.keep hb) k1 (by omega) (by omega) (ht.below hb) (fun j hj => hS (m + j) (by omega)) (.inr ⟨ba, off + m, rfl, Nat.lt_of_lt_of_le hlt hb.size, fun j hj => (hb.cell (p := ⟨ba, off + m + j, none⟩) hlt).trans (by rw [show off + m + j = off + (m + j) by omega]; exact hc (m + j) (by omega))⟩)
set_option maxRecDepth 100000 in
theorem pointwise_u (f : Int) (b off b2 off2 n cap cap2 : Nat) (A B : Nat → Int) (w : World) (ht : Tab w) (h0 : 0 ≤ f) (h8 : f ≤ 8) (hn : n ≤ 1048576) (hA : ∀ j, j < n → 0 ≤ A j ∧ A j < P f) (hB : ∀ j, j < n → 0 ≤ B j ∧ B j < P f) (hlt : b < w.heap.size) (hlt2 : b2 < w.heap.size)
    (hc : ∀ j, j < n → w.cell? ⟨b, off + j, none⟩ = some (.int .i64 (A j))) (hc2 : ∀ j, j < n → w.cell? ⟨b2, off2 + j, none⟩ = some (.int .i64 (B j))) :
    Calls Tryd.prog 64 #[.int .i64 f, .slice (some ⟨b, off, none⟩) n cap, .slice (some ⟨b2, off2, none⟩) n cap2] w (CopyP w n (fun j => RS (A j * B j) (P f))) := by
  have hp := P_bd h0 h8
  refine (pointwise_some f b off b2 off2 n cap cap2 (fun j => if j < n then A j else 0) (fun j => if j < n then B j else 0) w ht h0 h8 hn (fun j => ?_) (fun j => ?_) hlt hlt2 (fun j hj => by rw [hc j hj, if_pos hj]) (fun j hj => by rw [hc2 j hj, if_pos hj])).mono fun e w' h => ⟨h.1, own_congr h.2.1 rfl (fun j hj => by simp [hj]), h.2.2⟩
  · by_cases h : j < n
    · simp only [h, if_true]; exact hA j h
    · simp only [h, if_false]; omega
  · by_cases h : j < n
    · simp only [h, if_true]; exact hB j h
    · simp only [h, if_false]; omega
set_option maxRecDepth 100000 in
set_option maxHeartbeats 3200000 in
theorem through_u (f : Int) (h0 : 0 ≤ f) (h8 : f ≤ 8) (b g n : Nat) (pl pr : Option Addr) (X Y : Nat → Int) (aa : Option Addr) (cap : Nat) (w : World) (hT : TreeW f w n (some ⟨b, 0, none⟩) X n) (hN : NodeW w b f g n pl pr) (hO : Own w g (n + 1) (lf (vanL f X n))) (n1 : 1 ≤ n) (h40 : n ≤ 40) (ht : Tab w) (hd : DistinctS f X n) (hY : ∀ j, j < n → 0 ≤ Y j ∧ Y j < P f) (hs : Src w aa n Y) :
    Calls Tryd.prog 41 #[.pointer (some ⟨b, 0, none⟩), .slice aa n cap] w (OwnG w (interL f X Y n)) := by
  have hp := P_bd h0 h8
  obtain ⟨ba, off, rfl, hlt, hc⟩ : ∃ ba off, aa = some ⟨ba, off, none⟩ ∧ ba < w.heap.size ∧ ∀ j, j < n → w.cell? ⟨ba, off + j, none⟩ = some (.int .i64 (Y j)) := by
    rcases hs with h | h
    · omega
    · exact h
  have PW2 : Hid (∀ W, Below w.heap.size w W → Calls Tryd.prog 48 #[.pointer (some ⟨b, 0, none⟩)] W (fun e w' => ∃ g1, e = .returned (.slice (some ⟨g1, 0, none⟩) n n) ∧ W.heap.size ≤ g1 ∧ Own w' g1 n (fun i => mPower f (byF f X i n) (-1)) ∧ Below W.heap.size W w')) := Lib.hid fun W hb => by
    refine (weights_c f h0 h8 n b g n pl pr X W (hT.keep hb) (hN.keep hb hN.lt) (hO.keep hb) n1 h40 (ht.below hb) hd).mono fun e w' h => ?_
    obtain ⟨g1, h1, h2, h3, h4⟩ := h
    rw [wtX_len] at h1 h3
    exact ⟨g1, h1, h2, own_congr h3 rfl (fun j hj => by unfold wtX; rw [lf_tab, if_pos hj]), h4⟩
  have PT : Hid (∀ (g1 : Nat) W, Below w.heap.size w W → Own W g1 n (fun i => mPower f (byF f X i n) (-1)) → Calls Tryd.prog 64 #[.int .i64 f, .slice (some ⟨ba, off, none⟩) n cap, .slice (some ⟨g1, 0, none⟩) n n] W (fun e w' => ∃ g2, e = .returned (.slice (some ⟨g2, 0, none⟩) n n) ∧ W.heap.size ≤ g2 ∧ Own w' g2 n (fun j => RS (Y j * mPower f (byF f X j n) (-1)) (P f)) ∧ Below W.heap.size W w')) := Lib.hid fun g1 W hb ho => by
    refine (pointwise_u f ba off g1 0 n cap n Y _ W (ht.below hb) h0 h8 (by omega) hY (fun j hj => ?_) (Nat.lt_of_lt_of_le hlt hb.size) ho.lt (fun j hj => (hb.cell (p := ⟨ba, off + j, none⟩) hlt).trans (hc j hj)) (fun j hj => by rw [Nat.zero_add]; exact ho.cell hj)).mono fun e w' h => ?_
    · have hne := byF_ne h0 h8 hd hj
      have hb2 := byF_bd h0 h8 X j n
      exact inv_bd h0 h8 (by
        rcases Int.lt_or_eq_of_le hb2.1 with h | h
        · exact h
        · exact absurd (by rw [← h]; exact Int.zero_emod _) hne) hb2.2
    · obtain ⟨h1, h2, h3⟩ := h
      exact ⟨_, h1, Nat.le_refl _, h2, h3⟩
  have PC : Hid (∀ (g2 : Nat) W, Below w.heap.size w W → Own W g2 n (fun j => RS (Y j * mPower f (byF f X j n) (-1)) (P f)) → Calls Tryd.prog 63 #[.pointer (some ⟨b, 0, none⟩), .slice (some ⟨g2, 0, none⟩) n n] W (OwnG W (interL f X Y n))) := Lib.hid fun g2 W hb ho => by
    refine (comb_c f h0 h8 n _ X _ n _ n W (hT.keep hb) n1 h40 (Nat.le_refl _) (ht.below hb) (fun j _ => RS_bd (by omega)) ho.src).mono fun e w' h => ?_
    obtain ⟨c, h1, h2⟩ := h
    rwa [comb_inter h0 h8 hd hY h1] at h2
  have HF : Hid (∀ e W W', Below w.heap.size w W → OwnG W (interL f X Y n) e W' → OwnG w (interL f X Y n) e W') := Lib.hid fun e W W' hb h => h.up hb
  have b0 : Below w.heap.size w w.drew := (Below.refl _ _).drew
  have kk : Hid (∀ W, Below w.heap.size w W → W.cell? ⟨b, 0, none⟩ = some (.int .i64 f)) := Lib.hid fun W hb => (hN.keep hb hN.lt).1
  clear hT hN hO ht hd hY hs hc
  generalize interL f X Y n = V at *
  go_enter Tryd.func41, Tryd.ntmps41
  go_wp2_with fail
  have k0 := kk.out _ (Below.refl _ _)
  have k1 := kk.out _ b0
  go_region_held3 (fun W1 => W1.cell? ⟨b, 0, none⟩ = some (.int .i64 f))
    (first | exact k0 | exact k1 | exact k2 | exact k3 | exact k4 | go_keep)
    (first
      | (go_at_call 48; refine (PW2.out _ b0).mono ?_; rintro e w1 ⟨g1, rfl, hg1, o1, b1⟩; have b2 := below_up b0 b1 b0.size; have k2 := kk.out _ b2)
      | (go_at_call 64; refine (PT.out g1 _ b2 o1).mono ?_; rintro e w2 ⟨g2, rfl, hg2, o2, b3⟩; have b4 := below_up b2 b3 b2.size; have k3 := kk.out _ b4)
      | (go_at_call 63; refine (PC.out g2 _ b4 o2).mono ?_; intro e w3 h3; have HR := Lib.hid (HF.out _ _ _ b4 h3); obtain ⟨g3, rfl, hg3, o3, b5⟩ := h3; have k4 := kk.out _ (below_up b4 b5 b4.size)))
  clear k0 k1 k2 k3 k4 o1 o2 o3 PW2 PT PC HF kk b1 b3 b5
  go_wp2
  go_ret
  exact HR.out
end Go.Proofs.YtangofjpnhhfeaaDoor
namespace Go.Proofs.YtangofjpnhhfeaaDoor
open Go.RowKit
open Classical in
noncomputable def mEls (f : Int) (l : List Int) : Bool := decide ((0 ≤ f ∧ f ≤ 8) ∧ ElsOk f l)
theorem els_on {f : Int} {l : List Int} (h : 0 ≤ f ∧ f ≤ 8) (h2 : ElsOk f l) : mEls f l = true := by unfold mEls; simp only [decide_eq_true_eq]; exact ⟨h, h2⟩
theorem els_off {f : Int} {l : List Int} (h : ¬ ((0 ≤ f ∧ f ≤ 8) ∧ ElsOk f l)) : mEls f l = false := by unfold mEls; simp only [decide_eq_false_iff_not]; exact h
theorem els_c (f : Int) (a : Option Addr) (l : List Int) (cap : Nat) (w : World) (hn : l.length ≤ 1048576) (hs : Src w a l.length (lf l)) : Calls Tryd.prog 29 #[.int .i64 f, .slice a l.length cap] w (SameB w (mEls f l)) := by
  by_cases hf : 0 ≤ f ∧ f ≤ 8
  · refine (elements_c f a l.length cap (lf l) w hf.1 hf.2 hn hs).mono ?_
    rintro e w' ⟨B, hB, rfl, rfl⟩
    refine ⟨?_, rfl⟩
    cases B
    · obtain ⟨k, hk, hx⟩ := hB.2 rfl
      rw [els_off fun h => by have := h.2 k hk; omega]
    · rw [els_on hf (hB.1 rfl)]
  · refine (elements_off f a l.length cap w hf).mono ?_
    rintro e w' ⟨rfl, rfl⟩
    exact ⟨by rw [els_off fun h => hf h.1], rfl⟩
open Classical in
/-- x lies among the first n. -/
noncomputable def hasF (F : Nat → Int) (n : Nat) (x : Int) : Bool := decide (∃ j, j < n ∧ F j = x)
theorem hasF_yes {F : Nat → Int} {n j : Nat} {x : Int} (h : j < n) (e : F j = x) : hasF F n x = true := by
  unfold hasF
  simp only [decide_eq_true_eq]
  exact ⟨j, h, e⟩
theorem hasF_no {F : Nat → Int} {n : Nat} {x : Int} (h : ∀ j, j < n → F j ≠ x) : hasF F n x = false := by
  unfold hasF
  simp only [decide_eq_false_iff_not]
  rintro ⟨j, hj, e⟩
  exact h j hj e
set_option maxRecDepth 100000 in
theorem has_some (b off n cap : Nat) (F : Nat → Int) (x : Int) (w : World) (hn : n ≤ 1048576) (hc : ∀ j, j < n → w.cell? ⟨b, off + j, none⟩ = some (.int .i64 (F j))) : Calls Tryd.prog 30 #[.slice (some ⟨b, off, none⟩) n cap, .int .i64 x] w (SameB w (hasF F n x)) := by
  have HC := Lib.hid hc
  have HY : Hid (∀ j, j < n → F j = x → hasF F n x = true) := Lib.hid fun j h e => hasF_yes h e
  have HN : Hid ((∀ j, j < n → F j ≠ x) → hasF F n x = false) := Lib.hid hasF_no
  clear hc
  generalize hasF F n x = R at *
  go_enter Tryd.func30, Tryd.ntmps30
  go_wp2_with fail
  go_loopw [5] (fun iv wr => ∃ i : Nat, iv = .int .i64 i ∧ i ≤ n ∧ Hid (∀ j, j < i → F j ≠ x) ∧ w = wr) (fun iv _ => n - (intOf iv).toNat)
  case atStart => exact ⟨0, rfl, Nat.zero_le _, Lib.hid fun j hj => by omega, rfl⟩
  case round =>
    obtain ⟨i, rfl, hi, HP, rfl⟩ := hrel
    by_cases h1 : i < n
    · have hd1 : decide ((i : Int) < n) = true := decide_eq_true (by omega)
      have c1 := HC.out i h1
      have hi2 : (i : Int) < n := by omega
      by_cases h2 : F i = x
      · have hd2 : (F i == x) = true := by rw [beq_iff_eq]; exact h2
        have HR := Lib.hid (HY.out i h1 h2)
        clear h2
        go_wp2
        go_ret
        exact ⟨by rw [HR.out]; rfl, rfl⟩
      · have hd2 : (F i == x) = false := by rw [beq_eq_false_iff_ne]; exact h2
        have HP2 : Hid (∀ j, j < i + 1 → F j ≠ x) := Lib.hid fun j hj => by
          by_cases e : j < i
          · exact HP.out j e
          · obtain rfl : j = i := by omega
            exact h2
        clear h2 HP
        go_wp2
        go_roundw
        case rel => exact ⟨i + 1, by go_num, by omega, HP2, trivial⟩
        case measure => simp [intOf]; omega
    · have hd1 : decide ((i : Int) < n) = false := decide_eq_false (by omega)
      obtain rfl : i = n := by omega
      have HR := Lib.hid (HN.out HP.out)
      clear HP
      go_wp2
      go_ret
      exact ⟨by rw [HR.out]; rfl, rfl⟩
theorem drew_add (w : World) (a b : Nat) : (w.drewN a).drewN b = w.drewN (a + b) := by
  induction b with
  | zero => rfl
  | succ b ih => show ((w.drewN a).drewN b).drew = (w.drewN (a + b)).drew; rw [ih]
/-- An answer that leaves memory as it is. -/
def DrewB (w : World) (b : Bool) (e : Ending) (w' : World) : Prop := e = .returned (.bool b) ∧ ∃ q, w' = w.drewN q
set_option maxRecDepth 100000 in
theorem sPointsOk (f : Int) (a : Option Addr) (l : List Int) (cap : Nat) (w : World) (hn : l.length ≤ 1048576) (hs : SrcC w a l.length cap (lf l)) : Calls Tryd.prog 10 #[.int .i64 f, .slice a l.length cap] w (DrewB w (mPointsOk f l)) := by
  have RI := Lib.hid (in_c l.length 1 40 w)
  have RE := Lib.hid (els_c f a l cap w hn hs.src)
  by_cases h1 : 1 ≤ l.length ∧ l.length ≤ 40
  · rw [decide_eq_true (show (1 : Int) ≤ l.length ∧ (l.length : Int) ≤ 40 by omega)] at RI
    by_cases h2 : (0 ≤ f ∧ f ≤ 8) ∧ ElsOk f l
    · rw [els_on h2.1 h2.2] at RE
      obtain ⟨hcap, hs⟩ := hs
      obtain ⟨b, off, rfl, hlt, hc⟩ : ∃ b off, a = some ⟨b, off, none⟩ ∧ b < w.heap.size ∧ ∀ j, j < l.length → w.cell? ⟨b, off + j, none⟩ = some (.int .i64 (lf l j)) := by
        rcases hs with hq | hq
        · omega
        · exact hq
      have HC := Lib.hid hc
      have HY : Hid ((∀ i, i < l.length → ∀ j, j < i → lf l j ≠ lf l i) → mPointsOk f l = true) := Lib.hid fun h => pts_iff.2 ⟨h2.1, h1, h2.2, fun i j hij hj => h j hj i hij⟩
      have HN : Hid (∀ i, i < l.length → hasF (lf l) i (lf l i) = true → mPointsOk f l = false) := Lib.hid fun i hi he => pts_not.2 fun hp => by
        unfold hasF at he
        simp only [decide_eq_true_eq] at he
        obtain ⟨j, hj, e⟩ := he
        exact hp.2.2.2 j i hj hi e
      have HF : Hid (∀ i, hasF (lf l) i (lf l i) = false → ∀ j, j < i → lf l j ≠ lf l i) := Lib.hid fun i he j hj e => by
        rw [hasF_yes hj e] at he
        cases he
      clear hs hc h2
      generalize mPointsOk f l = R at *
      generalize lf l = F at *
      generalize l.length = n at *
      go_enter Tryd.func10, Tryd.ntmps10
      go_wp2_with fail
      refine RI.out.mono ?_
      rintro e w' ⟨rfl, rfl⟩
      go_wp2_with fail
      refine RE.out.mono ?_
      rintro e w' ⟨rfl, rfl⟩
      go_wp2_with fail
      go_loopw [5] (fun iv wr => ∃ i q : Nat, iv = .int .i64 i ∧ i ≤ n ∧ Hid (∀ k, k < i → ∀ j, j < k → F j ≠ F k) ∧ wr = w.drewN q) (fun iv _ => n - (intOf iv).toNat)
      case atStart => exact ⟨0, 0, rfl, Nat.zero_le _, Lib.hid fun j hj => by omega, rfl⟩
      case round =>
        obtain ⟨i, q, rfl, hi, HP, rfl⟩ := hrel
        by_cases h3 : i < n
        · have hd1 : decide ((i : Int) < n) = true := decide_eq_true (by omega)
          have c1 : w.cell? ⟨b, off + i, none⟩ = some (.int .i64 (F i)) := HC.out i h3
          have hi0 : (0 : Int) ≤ (i : Int) := by omega
          have hi1 : (i : Int) < n := by omega
          have hi2 : (i : Int) ≤ cap := by omega
          have HH : Hid (∀ p2, Calls Tryd.prog 30 #[.slice (some ⟨b, off, none⟩) i cap, .int .i64 (F i)] (w.drewN (q + p2)) fun e w' => e = .returned (.bool (hasF F i (F i))) ∧ ∃ n, w' = w.drewN (q + n)) := Lib.hid fun p2 => (has_some b off i cap F (F i) (w.drewN (q + p2)) (by omega) (fun j hj => HC.out j (by omega))).mono fun _ _ h => ⟨h.1, p2, h.2.symm⟩
          cases hB : hasF F i (F i)
          · rw [hB] at HH
            have HP2 : Hid (∀ k, k < i + 1 → ∀ j, j < k → F j ≠ F k) := Lib.hid fun k hk j hj => by
              by_cases e : k < i
              · exact HP.out k e j hj
              · obtain rfl : k = i := by omega
                exact HF.out k hB j hj
            clear hB HP
            go_wp2
            go_quiet ((go_at_call 30; exact HH.out _))
            go_wp2
            go_roundw
            case rel => exact ⟨i + 1, _, by go_num, by omega, HP2, rfl⟩
            case measure => simp [intOf]; omega
          · rw [hB] at HH
            have HR := Lib.hid (HN.out i h3 hB)
            clear hB HP
            go_wp2
            go_quiet ((go_at_call 30; exact HH.out _))
            rename_i nq
            go_wp2
            go_ret
            exact ⟨by rw [HR.out]; rfl, q + nq, drew_add w q nq⟩
        · have hd1 : decide ((i : Int) < n) = false := decide_eq_false (by omega)
          obtain rfl : i = n := by omega
          have HR := Lib.hid (HY.out HP.out)
          clear HP
          go_wp2
          go_ret
          exact ⟨by rw [HR.out]; rfl, _, rfl⟩
    · rw [els_off h2] at RE
      rw [pts_not.2 fun h => h2 ⟨h.1, h.2.2.1⟩]
      clear hs h2
      go_enter Tryd.func10, Tryd.ntmps10
      go_wp2_with fail
      refine RI.out.mono ?_
      rintro e w' ⟨rfl, rfl⟩
      go_wp2_with fail
      refine RE.out.mono ?_
      rintro e w' ⟨rfl, rfl⟩
      go_wp2
      go_ret
      exact ⟨rfl, 0, rfl⟩
  · rw [decide_eq_false (show ¬ ((1 : Int) ≤ l.length ∧ (l.length : Int) ≤ 40) by omega)] at RI
    rw [pts_not.2 fun h => h1 h.2.1]
    clear hs h1 RE
    go_enter Tryd.func10, Tryd.ntmps10
    go_wp2_with fail
    refine RI.out.mono ?_
    rintro e w' ⟨rfl, rfl⟩
    go_wp2
    go_ret
    exact ⟨rfl, 0, rfl⟩
end Go.Proofs.YtangofjpnhhfeaaDoor
namespace Go.Proofs.YtangofjpnhhfeaaDoor
open Go.RowKit
set_option maxRecDepth 100000 in
theorem index_some (b off n cap : Nat) (F : Nat → Int) (x : Int) (w : World) (hn : n ≤ 1048576) (hc : ∀ j, j < n → w.cell? ⟨b, off + j, none⟩ = some (.int .i64 (F j))) : Calls Tryd.prog 53 #[.slice (some ⟨b, off, none⟩) n cap, .int .i64 x] w fun e w' => ∃ v : Int, e = .returned (.int .i64 v) ∧ decide (0 ≤ v) = hasF F n x ∧ w = w' := by
  have HC := Lib.hid hc
  have HY : Hid (∀ j, j < n → x = F j → hasF F n x = true) := Lib.hid fun j h e => hasF_yes h e.symm
  have HN : Hid ((∀ j, j < n → F j ≠ x) → hasF F n x = false) := Lib.hid hasF_no
  clear hc
  generalize hasF F n x = R at *
  go_enter Tryd.func53, Tryd.ntmps53
  go_wp2_with fail
  go_loopw [8] (fun iv wr => ∃ i : Nat, iv = .int .i64 i ∧ i ≤ n ∧ Hid (∀ j, j < i → F j ≠ x) ∧ w = wr) (fun iv _ => n - (intOf iv).toNat)
  case atStart => exact ⟨0, rfl, Nat.zero_le _, Lib.hid fun j hj => by omega, rfl⟩
  case round =>
    obtain ⟨i, rfl, hi, HP, rfl⟩ := hrel
    by_cases h1 : i < n
    · have hd1 : decide ((i : Int) < n) = true := decide_eq_true (by omega)
      have c1 := HC.out i h1
      have hi2 : (i : Int) < n := by omega
      by_cases h2 : x = F i
      · have hd2 : (x == F i) = true := by rw [beq_iff_eq]; exact h2
        have HR := Lib.hid (HY.out i h1 h2)
        clear h2
        go_wp2
        go_ret
        exact ⟨i, rfl, by rw [HR.out]; simp, rfl⟩
      · have hd2 : (x == F i) = false := by rw [beq_eq_false_iff_ne]; exact h2
        have HP2 : Hid (∀ j, j < i + 1 → F j ≠ x) := Lib.hid fun j hj => by
          by_cases e : j < i
          · exact HP.out j e
          · obtain rfl : j = i := by omega
            exact fun e => h2 e.symm
        clear h2 HP
        go_wp2
        go_roundw
        case rel => exact ⟨i + 1, by go_num, by omega, HP2, trivial⟩
        case measure => simp [intOf]; omega
    · have hd1 : decide ((i : Int) < n) = false := decide_eq_false (by omega)
      obtain rfl : i = n := by omega
      have HR := Lib.hid (HN.out HP.out)
      clear HP
      go_wp2
      go_ret
      exact ⟨-1, rfl, by rw [HR.out]; rfl, rfl⟩
theorem index_none (a : Option Addr) (cap : Nat) (F : Nat → Int) (x : Int) (w : World) : Calls Tryd.prog 53 #[.slice a 0 cap, .int .i64 x] w fun e w' => ∃ v : Int, e = .returned (.int .i64 v) ∧ decide (0 ≤ v) = hasF F 0 x ∧ w = w' := by
  have HR : Hid (hasF F 0 x = false) := Lib.hid (hasF_no fun j hj => by omega)
  go_enter Tryd.func53, Tryd.ntmps53
  go_wp2
  refine wp_loop_rounds 1 ?_
  rw [rounds_succ]
  go_wp2
  go_ret
  exact ⟨-1, rfl, by rw [HR.out]; rfl, rfl⟩
theorem contains_c (a : Option Addr) (n cap : Nat) (F : Nat → Int) (x : Int) (w : World) (hn : n ≤ 1048576) (hs : Src w a n F) : Calls Tryd.prog 33 #[.slice a n cap, .int .i64 x] w (SameB w (hasF F n x)) := by
  have HI : Hid (Calls Tryd.prog 53 #[.slice a n cap, .int .i64 x] w fun e w' => ∃ v : Int, e = .returned (.int .i64 v) ∧ decide (0 ≤ v) = hasF F n x ∧ w = w') := Lib.hid (by
    rcases hs with rfl | ⟨b, off, rfl, hlt, hc⟩
    · exact index_none a cap F x w
    · exact index_some b off n cap F x w hn hc)
  clear hs
  generalize hasF F n x = R at *
  go_enter Tryd.func33, Tryd.ntmps33
  go_wp2_with fail
  refine HI.out.mono ?_
  rintro e w' ⟨v, rfl, hv, rfl⟩
  go_wp2
  go_ret
  exact ⟨rfl, rfl⟩
set_option maxRecDepth 100000 in
set_option maxHeartbeats 1600000 in
theorem iPointsOk_in (f : Int) (b off n cap : Nat) (F : Nat → Int) (w : World) (B : Bool) (h0 : 0 ≤ f) (h8 : f ≤ 8) (n1 : 1 ≤ n) (h40 : n ≤ 40) (hcap : n ≤ cap) (hlt : b < w.heap.size) (hc : ∀ j, j < n → w.cell? ⟨b, off + j, none⟩ = some (.int .i64 (F j)))
    (HA : Hid (Calls Tryd.prog 32 #[.int .i64 f, .slice (some ⟨b, off, none⟩) n cap] w (SameB w true))) (HN : Hid (∀ i, i < n → hasF F i (F i) = true → B = false)) (HY : Hid ((∀ i, i < n → hasF F i (F i) = false) → B = true)) :
    Calls Tryd.prog 12 #[.int .i64 f, .slice (some ⟨b, off, none⟩) n cap] w (SameB w B) := by
  have HC := Lib.hid hc
  have hd0 : decide ((n : Int) < 1) = false := decide_eq_false (by omega)
  have hd1 : decide ((40 : Int) < n) = false := decide_eq_false (by omega)
  clear hc
  go_enter Tryd.func12, Tryd.ntmps12
  go_wp2_with fail
  refine (known_yes f w h0 h8).mono ?_
  rintro e w' ⟨rfl, rfl⟩
  go_wp2_with fail
  refine HA.out.mono ?_
  rintro e w' ⟨rfl, rfl⟩
  go_wp2_with fail
  go_loop [30] (fun iv => ∃ i : Nat, iv = .int .i64 i ∧ i ≤ n ∧ Hid (∀ k, k < i → hasF F k (F k) = false)) (fun iv => n - (intOf iv).toNat)
  case atStart => exact ⟨0, rfl, Nat.zero_le _, Lib.hid fun k hk => by omega⟩
  case round =>
    obtain ⟨i, rfl, hi, HP⟩ := hrel
    by_cases h1 : i < n
    · have hd2 : decide ((i : Int) < n) = true := decide_eq_true (by omega)
      have c1 := HC.out i h1
      have hi0 : (0 : Int) ≤ (i : Int) := by omega
      have hi2 : (i : Int) < n := by omega
      have hi3 : (i : Int) ≤ cap := by omega
      have HH := Lib.hid (contains_c (some ⟨b, off, none⟩) i cap F (F i) w (by omega) (.inr ⟨b, off, rfl, hlt, fun j hj => HC.out j (by omega)⟩))
      cases hB : hasF F i (F i)
      · rw [hB] at HH
        have HP2 : Hid (∀ k, k < i + 1 → hasF F k (F k) = false) := Lib.hid fun k hk => by
          by_cases e : k < i
          · exact HP.out k e
          · obtain rfl : k = i := by omega
            exact hB
        clear hB HP
        go_wp2_with fail
        refine HH.out.mono ?_
        rintro e w' ⟨rfl, rfl⟩
        go_wp2
        go_round
        case rel => exact ⟨i + 1, by go_num, by omega, HP2⟩
        case measure => simp [intOf]; omega
      · rw [hB] at HH
        have HR := Lib.hid (HN.out i h1 hB)
        clear hB HP
        go_wp2_with fail
        refine HH.out.mono ?_
        rintro e w' ⟨rfl, rfl⟩
        go_wp2
        go_ret
        exact ⟨by rw [HR.out]; rfl, rfl⟩
    · have hd2 : decide ((i : Int) < n) = false := decide_eq_false (by omega)
      obtain rfl : i = n := by omega
      have HR := Lib.hid (HY.out HP.out)
      clear HP
      go_wp2
      go_ret
      exact ⟨by rw [HR.out]; rfl, rfl⟩
set_option maxRecDepth 100000 in
theorem iPointsOk (f : Int) (a : Option Addr) (l : List Int) (cap : Nat) (w : World) (hn : l.length ≤ 1048576) (hs : SrcC w a l.length cap (lf l)) (ht : Tab w) : Calls Tryd.prog 12 #[.int .i64 f, .slice a l.length cap] w (SameB w (mPointsOk f l)) := by
  by_cases hf : 0 ≤ f ∧ f ≤ 8
  · obtain ⟨h0, h8⟩ := hf
    by_cases h1 : 1 ≤ l.length
    · by_cases h40 : l.length ≤ 40
      · by_cases hall : AllIn f l
        · have H1 := Lib.hid (hasAll_c f a l cap w ht h0 h8 hn hs.src true (by simp [hall]))
          obtain ⟨b, off, rfl, hlt, hc⟩ : ∃ b off, a = some ⟨b, off, none⟩ ∧ b < w.heap.size ∧ ∀ j, j < l.length → w.cell? ⟨b, off + j, none⟩ = some (.int .i64 (lf l j)) := by
            rcases hs.2 with h | h
            · omega
            · exact h
          refine iPointsOk_in f b off l.length cap (lf l) w (mPointsOk f l) h0 h8 h1 h40 hs.1 hlt hc H1 (Lib.hid fun i hi he => pts_not.2 fun hp => ?_) (Lib.hid fun h => pts_iff.2 ⟨⟨h0, h8⟩, ⟨h1, h40⟩, hall, fun i j hij hj e => ?_⟩)
          · unfold hasF at he
            simp only [decide_eq_true_eq] at he
            obtain ⟨j, hj, e⟩ := he
            exact hp.2.2.2 j i hj hi e
          · have := h j hj
            rw [hasF_yes hij e] at this
            cases this
        · have H1 := Lib.hid (hasAll_c f a l cap w ht h0 h8 hn hs.src false (by simp [hall]))
          have HB : Hid (mPointsOk f l = false) := Lib.hid (pts_not.2 fun h => hall h.2.2.1)
          have hd0 : decide ((l.length : Int) < 1) = false := decide_eq_false (by omega)
          have hd1 : decide ((40 : Int) < l.length) = false := decide_eq_false (by omega)
          rw [HB.out]
          clear hs hall HB h1 h40
          go_enter Tryd.func12, Tryd.ntmps12
          go_wp2_with fail
          refine (known_yes f w h0 h8).mono ?_
          rintro e w' ⟨rfl, rfl⟩
          go_wp2_with fail
          refine H1.out.mono ?_
          rintro e w' ⟨rfl, rfl⟩
          go_wp2
          go_ret
          exact ⟨rfl, rfl⟩
      · rw [pts_not.2 fun h => h40 h.2.1.2]
        have hd0 : decide ((l.length : Int) < 1) = false := decide_eq_false (by omega)
        have hd1 : decide ((40 : Int) < l.length) = true := decide_eq_true (by omega)
        clear hs h1 h40
        go_enter Tryd.func12, Tryd.ntmps12
        go_wp2_with fail
        refine (known_yes f w h0 h8).mono ?_
        rintro e w' ⟨rfl, rfl⟩
        go_wp2
        go_ret
        exact ⟨rfl, rfl⟩
    · rw [pts_not.2 fun h => h1 h.2.1.1]
      obtain ⟨N, hN⟩ : ∃ N, l.length = N := ⟨_, rfl⟩
      rw [hN]
      have hd0 : decide ((N : Int) < 1) = true := decide_eq_true (by omega)
      clear hs h1 hn hN
      go_enter Tryd.func12, Tryd.ntmps12
      go_wp2_with fail
      refine (known_yes f w h0 h8).mono ?_
      rintro e w' ⟨rfl, rfl⟩
      go_wp2
      go_ret
      exact ⟨rfl, rfl⟩
  · rw [pts_not.2 fun h => hf h.1]
    clear hs
    go_enter Tryd.func12, Tryd.ntmps12
    go_wp2_with fail
    refine (known_no f w (by omega)).mono ?_
    rintro e w' ⟨rfl, rfl⟩
    go_wp2
    go_ret
    exact ⟨rfl, rfl⟩
/-- A list in memory of its own, in a row that may have room. -/
def OwnM (w : World) (B : Nat) (a : Option Addr) (l : List Int) (cap : Nat) : Prop :=
  (a = none ∧ cap = 0 ∧ l.length = 0) ∨ ∃ g, a = some ⟨g, 0, none⟩ ∧ B ≤ g ∧ OwnV w g l.length cap (lf l)
theorem OwnM.src {w : World} {B : Nat} {a : Option Addr} {l : List Int} {cap : Nat} (h : OwnM w B a l cap) : Src w a l.length (lf l) := by
  rcases h with ⟨_, _, h⟩ | ⟨g, rfl, _, h⟩
  · exact .inl h
  · exact h.src
theorem OwnM.srcC {w : World} {B : Nat} {a : Option Addr} {l : List Int} {cap : Nat} (h : OwnM w B a l cap) : SrcC w a l.length cap (lf l) := by
  refine ⟨?_, h.src⟩
  rcases h with ⟨_, h1, h⟩ | ⟨g, rfl, _, _, _, h, _⟩
  · omega
  · exact h
theorem OwnM.keep {w w' : World} {B : Nat} {a : Option Addr} {l : List Int} {cap : Nat} (h : OwnM w B a l cap) (hb : Below w.heap.size w w') : OwnM w' B a l cap :=
  h.imp id fun ⟨g, h1, h2, h3⟩ => ⟨g, h1, h2, h3.keep hb⟩
theorem own_to_v {w : World} {g n : Nat} {F : Nat → Int} (h : Own w g n F) : OwnV w g n n F := ⟨_, h, Nat.le_refl _, fun _ _ => rfl⟩
theorem OwnA.m {w : World} {B : Nat} {a : Option Addr} {l : List Int} {cap : Nat} (h : OwnA w B a l cap) : OwnM w B a l cap := by
  rcases h with h | ⟨g, rfl, rfl, hB, h⟩
  · exact .inl h
  · exact .inr ⟨g, rfl, hB, own_to_v h⟩
theorem v_of_block {w w' : World} {g n cap : Nat} {F : Nat → Int} (h : OwnV w g n cap F) (hb : w'.heap[g]? = w.heap[g]?) : OwnV w' g n cap F := by
  obtain ⟨V, h1, h2, h3⟩ := h
  exact ⟨V, World.rowIs.of_block h1 hb, h2, h3⟩
theorem OwnM.after {w w' : World} {B cap : Nat} {a a2 : Option Addr} {l : List Int} (h : OwnM w B a2 l cap) (hg : Grow w w' a) (hl : Lies a B) : OwnM w' B a2 l cap := by
  rcases hg with rfl | ⟨g, rfl, hg⟩
  · exact h
  · have := hl _ rfl
    refine h.imp id fun ⟨g2, h1, h2, h3⟩ => ⟨g2, h1, h2, v_of_block h3 (hg.block g2 h3.lt (fun e => ?_))⟩
    injection e with e
    have : g < B := this
    omega
theorem Grow.belowM {u w w' : World} {B0 B cap : Nat} {a : Option Addr} {l : List Int} (hg : Grow w w' a) (ho : OwnM w B a l cap) (hB : B0 ≤ B) (hb : Below B0 u w) (hs : B0 ≤ w.heap.size) : Below B0 u w' := by
  rcases hg with rfl | ⟨g, rfl, hg⟩
  · exact hb
  · rcases ho with ⟨h, _⟩ | ⟨g2, h1, h2, h3⟩
    · cases h
    · cases h1
      exact hb.grown hg hs (fun k hk => by injection hk with hk; omega)
def OwnLM (w : World) (l : List Int) (e : Ending) (w' : World) : Prop := ∃ a cap, e = .returned (.slice a l.length cap) ∧ OwnM w' w.heap.size a l cap ∧ Below w.heap.size w w'
theorem OwnL.m {w w' : World} {l : List Int} {e : Ending} (h : OwnL w l e w') : OwnLM w l e w' := by
  obtain ⟨a, cap, h1, h2, h3⟩ := h
  exact ⟨a, cap, h1, h2.m, h3⟩
theorem OwnsL.m {w w' : World} {l : List Int} {e : Ending} (h : OwnsL w l e w') : OwnLM w l e w' := by
  obtain ⟨v, rfl, ho, hb⟩ := h
  by_cases hz : l.length = 0
  · rcases ho.2 with ⟨rfl, _⟩ | ⟨g, cap, cur, rfl, hg, hh, hc, hm, hs, _⟩
    · exact ⟨none, 0, by rw [hz], .inl ⟨rfl, rfl, hz⟩, hb⟩
    · refine ⟨some ⟨g, 0, none⟩, cap, rfl, .inr ⟨g, rfl, hg, fun j => (cur[j]?).getD .nilIface, ⟨cur, hh, by omega, fun j hj => ?_⟩, by omega, fun j hj => by omega⟩, hb⟩
      have : j < cur.size := by omega
      simp [this]
  · obtain ⟨g, cap, rfl, hg, hv⟩ := OwnV.of_owns ho hz
    exact ⟨some ⟨g, 0, none⟩, cap, rfl, .inr ⟨g, rfl, hg, hv⟩, hb⟩
theorem nil_m {w w' : World} {l : List Int} (hl : l = []) (hb : Below w.heap.size w w') : OwnLM w l (.returned (.slice none 0 0)) w' := by
  subst hl
  exact ⟨none, 0, rfl, .inl ⟨rfl, rfl, rfl⟩, hb⟩
set_option maxHeartbeats 800000 in
theorem mark_v (g n cap : Nat) (F : Nat → Int) (k : Int) (w : World) (hn : n ≤ 1048576) (k0 : 0 ≤ k) (k1 : k ≤ 1000000000) (ho : OwnV w g n cap F) : Calls Tryd.prog 16 #[.slice (some ⟨g, 0, none⟩) n cap, .int .i64 k] w fun e w' => e = .returned (.int .i64 (k + n)) ∧ OwnV w' g n cap (fun j => k + j) ∧ w.grownBy w' (some g) := by
  go_enter Tryd.func16, Tryd.ntmps16
  go_wp2_with fail
  go_loopw [1, 5] (fun u i wr => ∃ j : Nat, i = .int .i64 j ∧ u = .int .i64 (k + j) ∧ j ≤ n ∧ OwnV wr g n cap (fun x => if x < j then k + x else F x) ∧ w.grownBy wr (some g)) (fun _ i _ => n - (intOf i).toNat)
  case atStart => exact ⟨0, rfl, by simp, Nat.zero_le _, ho.congr (fun x _ => by simp), World.grownBy.refl _ _⟩
  case round =>
    obtain ⟨j, rfl, rfl, hj, ho2, hg⟩ := hrel
    by_cases h1 : j < n
    · have c2 := ho2.cell h1
      have c3 := ho2.frozen j
      have HS : Hid (OwnV (wr.setCell ⟨g, j, none⟩ (.int .i64 (k + j))) g n cap (fun x => if x < j + 1 then k + x else F x)) := Lib.hid (by
        refine (ho2.set (s := j) (x := k + j)).congr fun x _ => ?_
        unfold upd
        by_cases hx : x = j
        · subst hx; simp
        · by_cases hx2 : x < j
          · simp [hx, hx2, show x < j + 1 by omega]
          · simp [hx, hx2, show ¬ x < j + 1 by omega])
      have HG := Lib.hid (grown_set hg j (.int .i64 (k + j)))
      clear ho2 hg
      go_wp2
      go_roundw
      case rel => exact ⟨j + 1, by go_num, vint (by omega), by omega, HS.out, HG.out⟩
      case measure => simp [intOf]; omega
    · have hd : decide (j < n) = false := by simpa using h1
      obtain rfl : j = n := by omega
      have HS := Lib.hid ho2
      have HG := Lib.hid hg
      clear ho2 hg
      go_wp2
      go_ret
      exact ⟨rfl, HS.out.congr (fun x hx => by simp [hx]), HG.out⟩
set_option maxHeartbeats 800000 in
theorem held_v (g n cap : Nat) (k : Int) (w : World) (hn : n ≤ 1048576) (k0 : 0 ≤ k) (k1 : k ≤ 1000000000) (ho : OwnV w g n cap (fun j => k + j)) : Calls Tryd.prog 17 #[.slice (some ⟨g, 0, none⟩) n cap, .int .i64 k] w fun e w' => e = .returned (.int .i64 (k + n)) ∧ w = w' := by
  go_enter Tryd.func17, Tryd.ntmps17
  go_wp2_with fail
  go_loop [1, 5] (fun u i => ∃ j : Nat, i = .int .i64 j ∧ u = .int .i64 (k + j) ∧ j ≤ n) (fun _ i => n - (intOf i).toNat)
  case atStart => exact ⟨0, rfl, by simp, Nat.zero_le _⟩
  case round =>
    obtain ⟨j, rfl, rfl, hj⟩ := hrel
    by_cases h1 : j < n
    · have c2 := ho.cell h1
      have hd : ((k + j : Int) != k + j) = false := by simp
      go_wp2
      go_round
      case rel => exact ⟨j + 1, by go_num, vint (by omega), by omega⟩
      case measure => simp [intOf]; omega
    · have hd : decide (j < n) = false := by simpa using h1
      obtain rfl : j = n := by omega
      go_wp2
      go_ret
      exact ⟨rfl, rfl⟩
def MarkM (w : World) (B : Nat) (a : Option Addr) (n cap : Nat) (k : Int) (e : Ending) (w' : World) : Prop := e = .returned (.int .i64 (k + n)) ∧ OwnM w' B a (marks k n) cap ∧ Grow w w' a
theorem mark_m (B : Nat) (a : Option Addr) (l : List Int) (cap : Nat) (k : Int) (w : World) (hn : l.length ≤ 1048576) (k0 : 0 ≤ k) (k1 : k ≤ 1000000000) (ho : OwnM w B a l cap) : Calls Tryd.prog 16 #[.slice a l.length cap, .int .i64 k] w (MarkM w B a l.length cap k) := by
  rcases ho with ⟨rfl, rfl, hz⟩ | ⟨g, rfl, hB, h⟩
  · rw [hz]
    refine (mark_nil k w).mono ?_
    rintro e w' ⟨rfl, rfl⟩
    exact ⟨by simp, .inl ⟨rfl, rfl, by rw [marks_len]⟩, .inl rfl⟩
  · refine (mark_v g l.length cap (lf l) k w hn k0 k1 h).mono ?_
    rintro e w' ⟨rfl, h2, h3⟩
    refine ⟨rfl, .inr ⟨g, rfl, hB, ?_⟩, .inr ⟨g, rfl, h3⟩⟩
    rw [marks_len]
    exact h2.congr fun j hj => by unfold marks; rw [lf_tab, if_pos hj]
theorem held_m (B : Nat) (a : Option Addr) (n cap : Nat) (k : Int) (w : World) (hn : n ≤ 1048576) (k0 : 0 ≤ k) (k1 : k ≤ 1000000000) (ho : OwnM w B a (marks k n) cap) : Calls Tryd.prog 17 #[.slice a n cap, .int .i64 k] w fun e w' => e = .returned (.int .i64 (k + n)) ∧ w = w' := by
  rcases ho with ⟨rfl, rfl, hz⟩ | ⟨g, rfl, hB, h⟩
  · rw [marks_len] at hz
    rw [hz]
    refine (held_nil k w).mono ?_
    rintro e w' ⟨rfl, rfl⟩
    exact ⟨by simp, rfl⟩
  · rw [marks_len] at h
    exact held_v g n cap k w hn k0 k1 (h.congr (fun j hj => by unfold marks; rw [lf_tab, if_pos hj]))
end Go.Proofs.YtangofjpnhhfeaaDoor
namespace Go.Proofs.YtangofjpnhhfeaaDoor
open Go.RowKit
set_option maxRecDepth 100000 in
set_option maxHeartbeats 1600000 in
theorem van_c (f : Int) (a : Option Addr) (n cap : Nat) (X : Nat → Int) (w : World) (hf : 0 ≤ f ∧ f ≤ 8) (hn : n ≤ 4000) (hs : Src w a n X) : Calls Tryd.prog 34 #[.int .i64 f, .slice a n cap] w (ListL w (vanL f X n)) := by
  have HSU : Hid (∀ x y w, Calls Tryd.prog 46 #[.int .i64 f, .int .i64 x, .int .i64 y] w fun e w' => e = .returned (.int .i64 (RS (x - y) (P f))) ∧ w = w') := Lib.hid fun x y w => by have := sSub f x y w; rwa [mSub, if_pos hf] at this
  have HLM : Hid (∀ (i : Nat) (x y : Option Addr) (c d : Nat) (W : World), i < n → Src W x (vanL f X i).length (lf (vanL f X i)) → Src W y (linL f (X i)).length (lf (linL f (X i))) → Calls Tryd.prog 54 #[.int .i64 f, .slice x (vanL f X i).length c, .slice y 2 d] W (ListL W (vanL f X (i + 1)))) := Lib.hid fun i x y c d W hi h1 h2 => by
    have hl := vanL_len hf.1 hf.2 X i
    exact (lmul_c f x y (vanL f X i) (linL f (X i)) c d W hf.1 hf.2 (by omega) (by show 2 ≤ 4096; omega) (vanL_pol hf.1 hf.2 X i) (linL_pol hf.1 hf.2 _) h1 h2).mono fun _ _ h => h.list
  have HS := Lib.hid hs
  have H0 : Hid (Src (w.alloc (.cells #[.int .i64 1] 3)) (some ⟨w.heap.size, 0, none⟩) (vanL f X 0).length (lf (vanL f X 0))) := Lib.hid (src_one1 w)
  have BA : Hid (Below w.heap.size w (w.alloc (.cells #[.int .i64 1] 3))) := Lib.hid ((Below.refl _ _).alloc (Nat.le_refl _) _)
  clear hs
  go_enter Tryd.func34, Tryd.ntmps34
  go_wp2_with fail
  go_loopw [5, 6] (fun v iv wr => ∃ (i : Nat) (x : Option Addr) (c : Nat), iv = .int .i64 i ∧ i ≤ n ∧ v = .slice x (vanL f X i).length c ∧ Hid (Src wr x (vanL f X i).length (lf (vanL f X i))) ∧ Below w.heap.size w wr) (fun _ iv _ => n - (intOf iv).toNat)
  case atStart => exact ⟨0, _, 1, rfl, Nat.zero_le _, rfl, H0, BA.out⟩
  case round =>
    clear H0 BA
    obtain ⟨i, x, c, rfl, hi, rfl, HV, hb⟩ := hrel
    by_cases h1 : i < n
    · have hd1 : decide ((i : Int) < n) = true := decide_eq_true (by omega)
      obtain ⟨b, off, rfl, hlt, hc⟩ : ∃ b off, a = some ⟨b, off, none⟩ ∧ b < w.heap.size ∧ ∀ j, j < n → w.cell? ⟨b, off + j, none⟩ = some (.int .i64 (X j)) := by
        rcases HS.out with hq | hq
        · omega
        · exact hq
      have c1 : wr.cell? ⟨b, off + i, none⟩ = some (.int .i64 (X i)) := (hb.cell (p := ⟨b, off + i, none⟩) hlt).trans (hc i h1)
      have hi2 : (i : Int) < n := by omega
      clear hc
      go_wp2_with fail
      refine (HSU.out _ _ wr).mono ?_
      rintro e w' ⟨rfl, rfl⟩
      have HSL : Hid (Src (wr.alloc (.cells #[.int .i64 (RS (-X i) (P f)), .int .i64 1] 3)) (some ⟨wr.heap.size, 0, none⟩) (linL f (X i)).length (lf (linL f (X i)))) := Lib.hid (by
        have h := src_new2 wr (RS (-X i) (P f)) 1
        unfold linL
        rw [Int.zero_sub]
        exact h)
      have b2 : Below wr.heap.size wr (wr.alloc (.cells #[.int .i64 (RS (-X i) (P f)), .int .i64 1] 3)) := (Below.refl _ _).alloc (Nat.le_refl _) _
      have HK := Lib.hid (HLM.out i x _ c 2 _ h1 (HV.out.keep b2) HSL.out)
      clear c1 HV HSL
      go_wp2_with fail
      refine HK.out.mono ?_
      rintro e w3 ⟨y, d, rfl, s3, b3⟩
      have hb3 := below_up hb (below_up b2 b3 b2.size) hb.size
      have HV3 := Lib.hid s3
      clear s3 HK b2 b3
      go_wp2
      go_roundw
      case rel => exact ⟨i + 1, y, d, by go_num, by omega, rfl, HV3, hb3⟩
      case measure => simp [intOf]; omega
    · have hd1 : decide ((i : Int) < n) = false := decide_eq_false (by omega)
      obtain rfl : i = n := by omega
      go_wp2
      go_ret
      exact ⟨x, c, rfl, HV.out, hb⟩
theorem sVanish (f : Int) (a : Option Addr) (l : List Int) (cap : Nat) (w : World) (hn : l.length ≤ 1048576) (hs : SrcC w a l.length cap (lf l)) : Calls Tryd.prog 14 #[.int .i64 f, .slice a l.length cap] w (ListL w (mVanish f l)) := by
  have R := Lib.hid (sPointsOk f a l cap w hn hs)
  by_cases h : PtsOk f l
  · rw [show mVanish f l = vanL f (lf l) l.length by unfold mVanish; rw [if_pos h]]
    rw [pts_iff.2 h] at R
    have HV : Hid (∀ q, Calls Tryd.prog 34 #[.int .i64 f, .slice a l.length cap] (w.drewN q) (ListL (w.drewN q) (vanL f (lf l) l.length))) := Lib.hid fun q => van_c f a l.length cap (lf l) (w.drewN q) h.1 (by have := h.2.1.2; omega) (hs.src.keep (below_drewN (Below.refl _ _) q))
    have HB : Hid (∀ q, Below w.heap.size w (w.drewN q)) := Lib.hid fun q => below_drewN (Below.refl _ _) q
    clear hs h
    generalize vanL f (lf l) l.length = V at *
    go_enter Tryd.func14, Tryd.ntmps14
    go_wp2_with fail
    refine R.out.mono ?_
    rintro e w' ⟨rfl, q, rfl⟩
    go_wp2_with fail
    refine (HV.out q).mono ?_
    rintro e w3 ⟨y, d, rfl, s3, b3⟩
    have HS3 := Lib.hid s3
    have hb3 := below_up (HB.out q) b3 (HB.out q).size
    clear s3
    go_wp2
    go_ret
    exact ⟨y, d, rfl, HS3.out, hb3⟩
  · rw [show mVanish f l = [] by unfold mVanish; rw [if_neg h]]
    rw [pts_not.2 h] at R
    have HB : Hid (∀ q, Below w.heap.size w (w.drewN q)) := Lib.hid fun q => below_drewN (Below.refl _ _) q
    clear hs h
    go_enter Tryd.func14, Tryd.ntmps14
    go_wp2_with fail
    refine R.out.mono ?_
    rintro e w' ⟨rfl, q, rfl⟩
    go_wp2
    go_ret
    exact ⟨none, 0, rfl, .inl rfl, HB.out q⟩
theorem owns_keep {w w' : World} {B n : Nat} {v : Value} {xs : List Value} (h : w.ownsRow B 3 1 v n xs) (hb : Below w.heap.size w w') : w'.ownsRow B 3 1 v n xs := h.kept (row := none) ⟨hb.os, hb.tape, hb.output, hb.size, fun i hi _ => hb.block i hi⟩ (by cases v.ownBlock <;> simp)
theorem eval_is {f : Int} {l : List Int} (x : Int) (h : PolOk f l) : mEvalPoly f l x = evL f x l := by unfold mEvalPoly; rw [if_pos h]
set_option maxRecDepth 100000 in
set_option maxHeartbeats 1600000 in
theorem sEvalMany (f : Int) (a : Option Addr) (l : List Int) (cap : Nat) (a2 : Option Addr) (xs : List Int) (cap2 : Nat) (w : World) (hn : l.length ≤ 1048576) (hn2 : xs.length ≤ 1048576) (hs : Src w a l.length (lf l)) (hs2 : Src w a2 xs.length (lf xs)) : Calls Tryd.prog 18 #[.int .i64 f, .slice a l.length cap, .slice a2 xs.length cap2] w (ListL w (mEvalMany f l xs)) := by
  have BA : Hid (∀ o, Below w.heap.size w (w.alloc o)) := Lib.hid fun o => (Below.refl _ _).alloc (Nat.le_refl _) o
  have R1 : Hid (∀ o, Calls Tryd.prog 36 #[.int .i64 f, .slice a l.length cap] (w.alloc o) (SameB (w.alloc o) (mPolyOk f l))) := Lib.hid fun o => sPolyOk f a l cap (w.alloc o) hn (hs.keep (BA.out o))
  have R2 : Hid (∀ o, Calls Tryd.prog 29 #[.int .i64 f, .slice a2 xs.length cap2] (w.alloc o) (SameB (w.alloc o) (mEls f xs))) := Lib.hid fun o => els_c f a2 xs cap2 (w.alloc o) hn2 (hs2.keep (BA.out o))
  by_cases h1 : PolOk f l
  · rw [pok_iff.2 h1] at R1
    by_cases h2 : xs.length ≤ 40
    · have hd2 : decide ((40 : Int) < xs.length) = false := decide_eq_false (by omega)
      by_cases h3 : ElsOk f xs
      · rw [els_on h1.1 h3] at R2
        rw [show mEvalMany f l xs = manyL f l xs by unfold mEvalMany; rw [if_pos ⟨h1, h2, h3⟩]]
        have HEV : Hid (∀ (x : Int) W, Below w.heap.size w W → Calls Tryd.prog 37 #[.int .i64 f, .slice a l.length cap, .int .i64 x] W (IntP W (evL f x l))) := Lib.hid fun x W hb => by
          have := sEvalPoly f a l cap x W hn (hs.keep hb)
          rwa [eval_is x h1] at this
        have HS2 := Lib.hid hs2
        have HF : Hid (∀ v W, W.ownsRow w.heap.size 3 1 v xs.length (xsF (fun i => evL f (lf xs i) l) xs.length) → Below w.heap.size w W → ListL w (manyL f l xs) (.returned v) W) := Lib.hid fun v W ho hb => (owns_to (w := w) (l := manyL f l xs) ho (tab_len _ _).symm (fun j hj => by unfold manyL; rw [lf_tab, if_pos hj]) hb).list
        obtain ⟨i0, hi, hz0, hz1, hz2⟩ := info_parts info3
        have HI := Lib.hid hi
        have HZ0 := Lib.hid hz0
        have HZ1 := Lib.hid hz1
        have HZ2 := Lib.hid hz2
        clear hi hz0 hz1 hz2 hs hs2 h1 h3
        generalize manyL f l xs = ML at *
        generalize lf xs = X at *
        generalize xs.length = n at *
        go_enter Tryd.func18, Tryd.ntmps18
        go_wp2_with fail
        refine (R1.out _).mono ?_
        rintro e w' ⟨rfl, rfl⟩
        go_wp2_with fail
        refine (R2.out _).mono ?_
        rintro e w' ⟨rfl, rfl⟩
        go_wp2_with fail
        go_loopw [7, 8] (fun v iv wr => ∃ k : Nat, iv = .int .i64 k ∧ k ≤ n ∧ wr.ownsRow w.heap.size 3 1 v k (xsF (fun i => evL f (X i) l) k) ∧ Below w.heap.size w wr) (fun _ iv _ => n - (intOf iv).toNat)
        case atStart => exact ⟨0, rfl, Nat.zero_le _, own_empty w _, BA.out _⟩
        case round =>
          obtain ⟨k, rfl, hk, hown, hnx⟩ := hrel
          by_cases h4 : k < n
          · have hd1 : decide ((k : Int) < n) = true := decide_eq_true (by omega)
            obtain ⟨b, off, rfl, hlt, hc⟩ : ∃ b off, a2 = some ⟨b, off, none⟩ ∧ b < w.heap.size ∧ ∀ j, j < n → w.cell? ⟨b, off + j, none⟩ = some (.int .i64 (X j)) := by
              rcases HS2.out with hq | hq
              · omega
              · exact hq
            have c1 : wr.cell? ⟨b, off + k, none⟩ = some (.int .i64 (X k)) := (hnx.cell (p := ⟨b, off + k, none⟩) hlt).trans (hc k h4)
            have hk2 : (k : Int) < n := by omega
            have HE := Lib.hid (HEV.out (X k) wr hnx)
            have hs := hnx.size
            clear hc
            go_wp2_with fail
            refine HE.out.mono ?_
            rintro e w4 ⟨rfl, b4⟩
            have hown4 := owns_keep hown b4
            have hnx4 := below_up hnx b4 hs
            have hs4 := hnx4.size
            clear hown hnx b4 c1 HE
            go_wp2_with (at_builtin; refine wpList_append_own _ rfl _ _ 22 rfl w.heap.size 3 i0 (.int .i64 0) 1 8 Tryd.underlying22 HI.out HZ0.out HZ1.out HZ2.out rfl (by decide) _ _ _ rfl (hown4.alloc _) ⟨w4.heap.size, 0, none⟩ 1 1 [.int .i64 (evL f (X k) l)] rfl rfl ?c1 ?c2 ?c3 ?c4 ?c5 ?_)
            case c1 => exact cell_one_new _ _ _
            case c2 => intro u hu; simp at hu; subst hu; rfl
            case c3 => unfold maxLen; omega
            case c4 => omega
            case c5 => simp; omega
            intro v' w5 hown' hgrow _
            have hbel : Below w.heap.size w w5 := (hnx4.alloc hs4 _).grown hgrow (by simp; omega) (own_ge hown4)
            rw [xsF_succ (fun i => evL f (X i) l)] at hown'
            clear hgrow hown4
            go_wp2
            go_roundw
            case rel => exact ⟨k + 1, by go_num, by omega, hown', hbel⟩
            case measure => simp [intOf]; omega
          · have hd1 : decide ((k : Int) < n) = false := decide_eq_false (by omega)
            obtain rfl : k = n := by omega
            have HR := Lib.hid (HF.out _ wr hown hnx)
            clear hown
            go_wp2
            go_ret
            exact HR.out
      · rw [show mEvalMany f l xs = [] by unfold mEvalMany; rw [if_neg fun h => h3 h.2.2]]
        rw [els_off fun h => h3 h.2] at R2
        clear hs hs2 h1
        go_enter Tryd.func18, Tryd.ntmps18
        go_wp2_with fail
        refine (R1.out _).mono ?_
        rintro e w' ⟨rfl, rfl⟩
        go_wp2_with fail
        refine (R2.out _).mono ?_
        rintro e w' ⟨rfl, rfl⟩
        go_wp2
        go_ret
        exact ⟨none, 0, rfl, .inl rfl, BA.out _⟩
    · have hd2 : decide ((40 : Int) < xs.length) = true := decide_eq_true (by omega)
      rw [show mEvalMany f l xs = [] by unfold mEvalMany; rw [if_neg fun h => h2 h.2.1]]
      clear hs hs2 h1
      go_enter Tryd.func18, Tryd.ntmps18
      go_wp2_with fail
      refine (R1.out _).mono ?_
      rintro e w' ⟨rfl, rfl⟩
      go_wp2
      go_ret
      exact ⟨none, 0, rfl, .inl rfl, BA.out _⟩
  · rw [show mEvalMany f l xs = [] by unfold mEvalMany; rw [if_neg fun h => h1 h.1]]
    rw [pok_not.2 h1] at R1
    clear hs hs2 h1
    go_enter Tryd.func18, Tryd.ntmps18
    go_wp2_with fail
    refine (R1.out _).mono ?_
    rintro e w' ⟨rfl, rfl⟩
    go_wp2
    go_ret
    exact ⟨none, 0, rfl, .inl rfl, BA.out _⟩
end Go.Proofs.YtangofjpnhhfeaaDoor
namespace Go.Proofs.YtangofjpnhhfeaaDoor
open Go.RowKit
theorem OwnsL.room {w w' : World} {l : List Int} {e : Ending} (h : OwnsL w l e w') : ∃ a cap, e = .returned (.slice a l.length cap) ∧ SrcC w' a l.length cap (lf l) ∧ Below w.heap.size w w' := by
  obtain ⟨v, rfl, ho, hb⟩ := h
  obtain ⟨a, cap, rfl, hcap, hs⟩ := src_of_owns2 ho
  exact ⟨a, cap, rfl, ⟨hcap, hs⟩, hb⟩
/-- How many of the first j are not the i-th. -/
def cO (i j : Nat) : Nat := if j ≤ i then j else j - 1
theorem cO_other {i j : Nat} (h : j ≠ i) : cO i (j + 1) = cO i j + 1 := by
  unfold cO
  by_cases h1 : j ≤ i
  · rw [if_pos h1, if_pos (by omega)]
  · rw [if_neg h1, if_neg (by omega)]; omega
theorem cO_at (i : Nat) : cO i (i + 1) = cO i i := by
  unfold cO
  rw [if_neg (by omega), if_pos (Nat.le_refl _)]; omega
theorem cO_end {i n : Nat} (h : i < n) : cO i n = n - 1 := by
  unfold cO
  rw [if_neg (by omega)]
theorem cO_le (i j : Nat) : cO i j ≤ j := by
  unfold cO
  split <;> omega
theorem oth_at (X : Nat → Int) {i j : Nat} (h : j ≠ i) : othS X i (cO i j) = X j := by
  unfold othS cO
  by_cases h1 : j ≤ i
  · rw [if_pos h1, if_pos (by omega)]
  · rw [if_neg h1, if_neg (by omega)]
    congr 1
    omega
theorem byF_other (f : Int) (X : Nat → Int) {i j : Nat} (h : j ≠ i) : RS (byF f X i j * RS (X i - X j) (P f)) (P f) = byF f X i (j + 1) := by
  show _ = if j = i then byF f X i j else _
  rw [if_neg h]
theorem byF_at (f : Int) (X : Nat → Int) (i : Nat) : byF f X i (i + 1) = byF f X i i := if_pos rfl
set_option maxRecDepth 100000 in
set_option maxHeartbeats 6400000 in
theorem through_c (f : Int) (a : Option Addr) (n cap : Nat) (X : Nat → Int) (a2 : Option Addr) (cap2 : Nat) (Y : Nat → Int) (w : World) (hf : 0 ≤ f ∧ f ≤ 8) (n1 : 1 ≤ n) (hn : n ≤ 40) (hs : Src w a n X) (hs2 : Src w a2 n Y) : Calls Tryd.prog 40 #[.int .i64 f, .slice a n cap, .slice a2 n cap2] w (OwnsL w (lagL f X Y n n)) := by
  obtain ⟨b, off, rfl, hlt, hc⟩ : ∃ b off, a = some ⟨b, off, none⟩ ∧ b < w.heap.size ∧ ∀ j, j < n → w.cell? ⟨b, off + j, none⟩ = some (.int .i64 (X j)) := by
    rcases hs with hq | hq
    · omega
    · exact hq
  obtain ⟨b2, off2, rfl, hlt2, hc2⟩ : ∃ b off, a2 = some ⟨b, off, none⟩ ∧ b < w.heap.size ∧ ∀ j, j < n → w.cell? ⟨b, off + j, none⟩ = some (.int .i64 (Y j)) := by
    rcases hs2 with hq | hq
    · omega
    · exact hq
  have HC := Lib.hid hc
  have HC2 := Lib.hid hc2
  have HSU : Hid (∀ x y w, Calls Tryd.prog 46 #[.int .i64 f, .int .i64 x, .int .i64 y] w fun e w' => e = .returned (.int .i64 (RS (x - y) (P f))) ∧ w = w') := Lib.hid fun x y w => by have := sSub f x y w; rwa [mSub, if_pos hf] at this
  have HMU : Hid (∀ x y w, Calls Tryd.prog 45 #[.int .i64 f, .int .i64 x, .int .i64 y] w fun e w' => e = .returned (.int .i64 (RS (x * y) (P f))) ∧ w = w') := Lib.hid fun x y w => by have := sMul f x y w; rwa [mMul, if_pos hf] at this
  have HIN := Lib.hid (sInverse f)
  have lpol : ∀ i, PolOk f (lagL f X Y n i) := fun i => ⟨hf, by have := lagL_len hf.1 hf.2 X Y n1 i; omega, lagL_pol hf.1 hf.2 X Y n i⟩
  have tpol : ∀ i, PolOk f (lagT f X Y n i) := fun i => ⟨hf, by have := lagT_len hf.1 hf.2 X Y n1 i; omega, lagT_pol hf.1 hf.2 X Y n i⟩
  have vlen : ∀ i, (vanL f (othS X i) (n - 1)).length = n := fun i => by rw [vanL_len hf.1 hf.2]; omega
  have PV : Hid (∀ (i : Nat) (x : Option Addr) (c : Nat) W, Src W x (n - 1) (othS X i) → Calls Tryd.prog 34 #[.int .i64 f, .slice x (n - 1) c] W (ListL W (vanL f (othS X i) (n - 1)))) := Lib.hid fun i x c W h => van_c f x (n - 1) c (othS X i) W hf (by omega) h
  have PS : Hid (∀ (i : Nat) (x : Option Addr) (c : Nat) W, Src W x (vanL f (othS X i) (n - 1)).length (lf (vanL f (othS X i) (n - 1))) → Calls Tryd.prog 62 #[.int .i64 f, .slice x (vanL f (othS X i) (n - 1)).length c, .int .i64 (RS (Y i * mPower f (byF f X i n) (-1)) (P f))] W (ListL W (lagT f X Y n i))) := Lib.hid fun i x c W h => by
    have := sScalePoly f x (vanL f (othS X i) (n - 1)) c (RS (Y i * mPower f (byF f X i n) (-1)) (P f)) W (by rw [vlen]; omega) h
    rwa [show mScalePoly f (vanL f (othS X i) (n - 1)) (RS (Y i * mPower f (byF f X i n) (-1)) (P f)) = lagT f X Y n i by unfold mScalePoly; rw [if_pos ⟨hf, by rw [vlen]; omega, vanL_pol hf.1 hf.2 _ _⟩]; rfl] at this
  have PA : Hid (∀ (i : Nat) (x y : Option Addr) (c d : Nat) W, Src W x (lagL f X Y n i).length (lf (lagL f X Y n i)) → Src W y (lagT f X Y n i).length (lf (lagT f X Y n i)) → Calls Tryd.prog 61 #[.int .i64 f, .slice x (lagL f X Y n i).length c, .slice y (lagT f X Y n i).length d] W (OwnsL W (lagL f X Y n (i + 1)))) := Lib.hid fun i x y c d W h1 h2 => sAddPoly_on f x y _ _ c d W (by have := (lpol i).2.1; omega) (by have := (tpol i).2.1; omega) h1 h2 (lpol i) (tpol i)
  have PC : Hid (∀ (x : Option Addr) (c : Nat) W, SrcC W x (lagL f X Y n n).length c (lf (lagL f X Y n n)) → Calls Tryd.prog 50 #[.slice x (lagL f X Y n n).length c] W (OwnsL W (lagL f X Y n n))) := Lib.hid fun x c W h => by
    have := cut_c x (lagL f X Y n n).length c (lf (lagL f X Y n n)) W (by have := (lpol n).2.1; omega) h.1 h.2
    rwa [show cutL (lagL f X Y n n).length (lf (lagL f X Y n n)) = lagL f X Y n n from list_ext (by rw [cutL_len, (lpol n).2.2.full]) fun j _ => by rw [lf_cutL]; split; rfl; rw [lf_out _ (by omega)]] at this
  have HBO := Lib.hid (fun i j => @byF_other f X i j)
  have HOA := Lib.hid (fun i j => @oth_at X i j)
  obtain ⟨i0, hi, hz0, hz1, hz2⟩ := info_parts info3
  have HI := Lib.hid hi
  have HZ0 := Lib.hid hz0
  have HZ1 := Lib.hid hz1
  have HZ2 := Lib.hid hz2
  have HL0 : Hid (Src (w.alloc (.cells #[] 3)) (some ⟨w.heap.size, 0, none⟩) (lagL f X Y n 0).length (lf (lagL f X Y n 0))) := Lib.hid (.inl rfl)
  have BA : Hid (Below w.heap.size w (w.alloc (.cells #[] 3))) := Lib.hid ((Below.refl _ _).alloc (Nat.le_refl _) _)
  have hc00 : (lagL f X Y n 0).length ≤ 0 := Nat.le_refl 0
  clear hi hz0 hz1 hz2 hs hs2 hc hc2 lpol tpol vlen
  go_enter Tryd.func40, Tryd.ntmps40
  go_wp2_with fail
  go_loopw [7, 8, 9, 10, 11] (fun v iv _ _ _ wr => ∃ (i : Nat) (x : Option Addr) (c : Nat), iv = .int .i64 i ∧ i ≤ n ∧ v = .slice x (lagL f X Y n i).length c ∧ (lagL f X Y n i).length ≤ c ∧ Hid (Src wr x (lagL f X Y n i).length (lf (lagL f X Y n i))) ∧ Below w.heap.size w wr) (fun _ iv _ _ _ _ => n - (intOf iv).toNat)
  case atStart => exact ⟨0, _, 0, rfl, Nat.zero_le _, rfl, hc00, HL0, BA.out⟩
  case round =>
    clear HL0 BA hc00
    obtain ⟨i, x, c, rfl, hin, rfl, hcc, HV, hb⟩ := hrel
    generalize wr = W0 at *
    by_cases h1 : i < n
    · have hd1 : decide ((i : Int) < n) = true := decide_eq_true (by omega)
      have hs := hb.size
      go_wp2_with fail
      go_loopw [9, 10, 11] (fun v2 bv jv wr2 => ∃ j : Nat, jv = .int .i64 j ∧ j ≤ n ∧ bv = .int .i64 (byF f X i j) ∧ wr2.ownsRow W0.heap.size 3 1 v2 (cO i j) (xsF (othS X i) (cO i j)) ∧ Below W0.heap.size W0 wr2) (fun _ _ jv _ => n - (intOf jv).toNat)
      case atStart => exact ⟨0, rfl, Nat.zero_le _, rfl, own_empty W0 _, (Below.refl _ _).alloc (Nat.le_refl _) _⟩
      case round =>
        obtain ⟨j, rfl, hj, rfl, hown, hnx⟩ := hrel
        have hs2 := hnx.size
        by_cases h2 : j < n
        · have hd2 : decide ((j : Int) < n) = true := decide_eq_true (by omega)
          by_cases h3 : j = i
          · subst h3
            have hd3 : ((j : Int) != j) = false := by simp
            have HR : Hid (wr.ownsRow W0.heap.size 3 1 _ (cO j (j + 1)) (xsF (othS X j) (cO j (j + 1)))) := Lib.hid (by rw [cO_at]; exact hown)
            have HB2 := Lib.hid (byF_at f X j)
            clear hown
            go_wp2
            go_roundw
            case rel => exact ⟨j + 1, by go_num, by omega, vint HB2.out.symm, HR.out, hnx⟩
            case measure => simp [intOf]; omega
          · have hd3 : ((j : Int) != i) = true := by rw [bne_iff_ne]; omega
            have hbx := below_up hb hnx hs
            have c1 : wr.cell? ⟨b, off + j, none⟩ = some (.int .i64 (X j)) := (hbx.cell (p := ⟨b, off + j, none⟩) hlt).trans (HC.out j h2)
            have hj2 : (j : Int) < n := by omega
            have hcj := cO_le i j
            go_wp2_with (at_builtin; refine wpList_append_own _ rfl _ _ 22 rfl W0.heap.size 3 i0 (.int .i64 0) 1 8 Tryd.underlying22 HI.out HZ0.out HZ1.out HZ2.out rfl (by decide) _ _ _ rfl (hown.alloc _) ⟨wr.heap.size, 0, none⟩ 1 1 [.int .i64 (X j)] rfl rfl ?c1 ?c2 ?c3 ?c4 ?c5 ?_)
            case c1 => exact cell_one_new _ _ _
            case c2 => intro u hu; simp at hu; subst hu; rfl
            case c3 => unfold maxLen; omega
            case c4 => omega
            case c5 => simp; omega
            intro v' w3 hown' hgrow _
            have hb3 : Below W0.heap.size W0 w3 := (hnx.alloc hs2 _).grown hgrow (by simp; omega) (own_ge hown)
            rw [show [Value.int .i64 (X j)] = [Value.int .i64 (othS X i (cO i j))] by rw [HOA.out i j h3], xsF_succ (othS X i), ← cO_other h3] at hown'
            clear hgrow hown hnx c1
            have hbx3 := below_up hb hb3 hs
            have d1 : w3.cell? ⟨b, off + i, none⟩ = some (.int .i64 (X i)) := (hbx3.cell (p := ⟨b, off + i, none⟩) hlt).trans (HC.out i h1)
            have d2 : w3.cell? ⟨b, off + j, none⟩ = some (.int .i64 (X j)) := (hbx3.cell (p := ⟨b, off + j, none⟩) hlt).trans (HC.out j h2)
            have hi0 : (0 : Int) ≤ (i : Int) := by omega
            have hi2 : (i : Int) < n := by omega
            have hj0 : (0 : Int) ≤ (j : Int) := by omega
            have HB2 := Lib.hid (HBO.out i j h3)
            have HMk : Hid (∀ p2 x y, Calls Tryd.prog 45 #[.int .i64 f, .int .i64 x, .int .i64 y] (w3.drewN p2) fun e w' => e = .returned (.int .i64 (RS (x * y) (P f))) ∧ ∃ n, w' = w3.drewN n) := Lib.hid fun p2 x y => (HMU.out x y _).mono fun _ _ h => ⟨h.1, p2, h.2.symm⟩
            have HSk : Hid (∀ p2 x y, Calls Tryd.prog 46 #[.int .i64 f, .int .i64 x, .int .i64 y] (w3.drewN p2) fun e w' => e = .returned (.int .i64 (RS (x - y) (P f))) ∧ ∃ n, w' = w3.drewN n) := Lib.hid fun p2 x y => (HSU.out x y _).mono fun _ _ h => ⟨h.1, p2, h.2.symm⟩
            go_wp2
            go_quiet ((first | (go_at_call 45; exact HMk.out _ _ _) | (go_at_call 46; exact HSk.out _ _ _)))
            rename_i nq
            have HO4 : Hid ((w3.drewN nq).ownsRow W0.heap.size 3 1 v' (cO i (j + 1)) (xsF (othS X i) (cO i (j + 1)))) := Lib.hid hown'
            have hb4 := below_drewN hb3 nq
            clear hown' d1 d2 hbx3
            go_wp2
            go_roundw
            case rel => exact ⟨j + 1, by go_num, by omega, vint HB2.out, HO4.out, hb4⟩
            case measure => simp [intOf]; omega
        · have hd2 : decide ((j : Int) < n) = false := decide_eq_false (by omega)
          obtain rfl : j = n := by omega
          rw [cO_end h1] at hown
          obtain ⟨ao, co, rfl, hco, hso⟩ := src_of_owns2 hown
          have HSO := Lib.hid hso
          have hbx := below_up hb hnx hs
          have hbd : Below W0.heap.size W0 wr.drew := hnx.drew
          have hbxd : Below w.heap.size w wr.drew := hbx.drew
          have HVd := Lib.hid (HV.out.keep hbd)
          have hsd : Src wr.drew ao (j - 1) (othS X i) := hso
          have kY : wr.cell? ⟨b2, off2 + i, none⟩ = some (.int .i64 (Y i)) := (hbx.cell (p := ⟨b2, off2 + i, none⟩) hlt2).trans (HC2.out i h1)
          have kYd : wr.drew.cell? ⟨b2, off2 + i, none⟩ = some (.int .i64 (Y i)) := kY
          have hi0 : (0 : Int) ≤ (i : Int) := by omega
          have hi2 : (i : Int) < j := by omega
          clear hown hso
          go_wp2_with fail
          go_region_held3 (fun W => W.cell? ⟨b2, off2 + i, none⟩ = some (.int .i64 (Y i)))
            (first | exact kY | exact kYd | exact kY4 | exact kY5 | exact kY6 | go_keep)
            (first
              | (go_at_call 34; refine (PV.out i ao co _ hsd).mono ?_; rintro e w4 ⟨y4, d4, rfl, s4, b4⟩; have b5 := below_up hbd b4 hbd.size; have kY4 := (b4.cell (p := ⟨b2, off2 + i, none⟩) (block_lt_of_cell kYd)).trans kYd)
              | (go_at_call 47; refine (HIN.out _ _).mono ?_; rintro e w' ⟨rfl, rfl⟩)
              | (go_at_call 45; refine (HMU.out _ _ _).mono ?_; rintro e w' ⟨rfl, rfl⟩)
              | (go_at_call 62; refine (PS.out i y4 d4 _ s4).mono ?_; rintro e w5 ⟨y5, d5, rfl, s5, b6⟩; have b7 := below_up b5 b6 b5.size; have kY5 := (b6.cell (p := ⟨b2, off2 + i, none⟩) (block_lt_of_cell kY4)).trans kY4)
              | (go_at_call 61; refine (PA.out i x y5 c d5 _ (HV.out.keep b7) s5).mono ?_; intro e w6 h6; obtain ⟨y6, d6, rfl, s6, b8⟩ := h6.room; have b9 := below_up b7 b8 b7.size; have kY6 := (b8.cell (p := ⟨b2, off2 + i, none⟩) (block_lt_of_cell kY5)).trans kY5))
          all_goals
            have HR6 := Lib.hid s6.2
            have hc6 := s6.1
            have hb10 := below_up hb b9 hs
            clear s4 s5 s6 b4 b5 b6 b7 b8 b9 kY4 kY5 kY6 hsd
            go_wp2
            go_roundw
          case rel => exact ⟨i + 1, y6, d6, by go_num, by omega, rfl, hc6, HR6, hb10⟩
          case measure => simp [intOf]; omega
    · have hd1 : decide ((i : Int) < n) = false := decide_eq_false (by omega)
      obtain rfl : i = n := by omega
      have HK := Lib.hid (PC.out x c W0 ⟨hcc, HV.out⟩)
      clear HV
      go_wp2_with fail
      refine HK.out.mono ?_
      intro e w4 h4
      have HR := Lib.hid (h4.up hb hb.size)
      obtain ⟨v4, rfl, _⟩ := h4
      go_wp2
      go_ret
      exact HR.out
end Go.Proofs.YtangofjpnhhfeaaDoor
namespace Go.Proofs.YtangofjpnhhfeaaDoor
open Go.RowKit
theorem lag_inter {f : Int} {xs ys : List Int} (h : InterOk f xs ys) : lagL f (lf xs) (lf ys) xs.length xs.length = interL f (lf xs) (lf ys) xs.length := (interL_lag h.1.1.1 h.1.1.2 h.1.2.1.1 h.1.dist fun j hj => h.2.2 j (by rw [h.2.1]; exact hj)).symm
set_option maxRecDepth 100000 in
set_option maxHeartbeats 1600000 in
theorem sInterpolate (f : Int) (a : Option Addr) (xs : List Int) (cap : Nat) (a2 : Option Addr) (ys : List Int) (cap2 : Nat) (w : World) (hn : xs.length ≤ 1048576) (hn2 : ys.length ≤ 1048576) (hs : SrcC w a xs.length cap (lf xs)) (hs2 : Src w a2 ys.length (lf ys)) : Calls Tryd.prog 20 #[.int .i64 f, .slice a xs.length cap, .slice a2 ys.length cap2] w (ListLB w (mInterpolate0 f xs ys) (mInterpolate1 f xs ys)) := by
  have R := Lib.hid (sPointsOk f a xs cap w hn hs)
  have HB : Hid (∀ q, Below w.heap.size w (w.drewN q)) := Lib.hid fun q => below_drewN (Below.refl _ _) q
  have RE : Hid (∀ q, Calls Tryd.prog 29 #[.int .i64 f, .slice a2 ys.length cap2] (w.drewN q) (SameB (w.drewN q) (mEls f ys))) := Lib.hid fun q => els_c f a2 ys cap2 (w.drewN q) hn2 (hs2.keep (HB.out q))
  by_cases h1 : PtsOk f xs
  · rw [pts_iff.2 h1] at R
    by_cases h2 : ys.length = xs.length
    · have d2 : ((ys.length : Int) != xs.length) = false := by rw [bne_eq_false_iff_eq]; omega
      by_cases h3 : ElsOk f ys
      · have h : InterOk f xs ys := ⟨h1, h2, h3⟩
        rw [els_on h1.1 h3] at RE
        rw [show mInterpolate0 f xs ys = interL f (lf xs) (lf ys) xs.length by unfold mInterpolate0; rw [if_pos h], show mInterpolate1 f xs ys = true by unfold mInterpolate1; simp [h]]
        have HT : Hid (∀ q, Calls Tryd.prog 40 #[.int .i64 f, .slice a xs.length cap, .slice a2 ys.length cap2] (w.drewN q) (OwnsL (w.drewN q) (interL f (lf xs) (lf ys) xs.length))) := Lib.hid fun q => by
          have := through_c f a xs.length cap (lf xs) a2 cap2 (lf ys) (w.drewN q) h1.1 h1.2.1.1 h1.2.1.2 (hs.src.keep (HB.out q)) (by rw [← h2]; exact hs2.keep (HB.out q))
          rw [lag_inter h] at this
          rw [h2]
          exact this
        clear hs hs2 h h1 h2 h3
        generalize interL f (lf xs) (lf ys) xs.length = L at *
        go_enter Tryd.func20, Tryd.ntmps20
        go_wp2_with fail
        refine R.out.mono ?_
        rintro e w' ⟨rfl, q, rfl⟩
        go_wp2_with fail
        refine (RE.out q).mono ?_
        rintro e w' ⟨rfl, rfl⟩
        go_wp2_with fail
        refine (HT.out q).mono ?_
        intro e w4 h4
        obtain ⟨y, d, rfl, s4, b4⟩ := h4.list
        have HS4 := Lib.hid s4
        have hb4 := below_up (HB.out q) b4 (HB.out q).size
        clear s4 h4 b4
        go_wp2
        go_ret2
        exact ⟨y, d, rfl, HS4.out, hb4⟩
      · rw [els_off fun h => h3 h.2] at RE
        rw [show mInterpolate0 f xs ys = [] by unfold mInterpolate0; rw [if_neg fun h => h3 h.2.2], show mInterpolate1 f xs ys = false by unfold mInterpolate1; simp only [decide_eq_false_iff_not]; exact fun h => h3 h.2.2]
        clear hs hs2 h1 h2 h3
        go_enter Tryd.func20, Tryd.ntmps20
        go_wp2_with fail
        refine R.out.mono ?_
        rintro e w' ⟨rfl, q, rfl⟩
        go_wp2_with fail
        refine (RE.out q).mono ?_
        rintro e w' ⟨rfl, rfl⟩
        go_wp2
        go_ret2
        exact ⟨none, 0, rfl, .inl rfl, HB.out q⟩
    · have d2 : ((ys.length : Int) != xs.length) = true := by rw [bne_iff_ne]; omega
      rw [show mInterpolate0 f xs ys = [] by unfold mInterpolate0; rw [if_neg fun h => h2 h.2.1], show mInterpolate1 f xs ys = false by unfold mInterpolate1; simp only [decide_eq_false_iff_not]; exact fun h => h2 h.2.1]
      clear hs hs2 h1 h2
      go_enter Tryd.func20, Tryd.ntmps20
      go_wp2_with fail
      refine R.out.mono ?_
      rintro e w' ⟨rfl, q, rfl⟩
      go_wp2
      go_ret2
      exact ⟨none, 0, rfl, .inl rfl, HB.out q⟩
  · rw [pts_not.2 h1] at R
    rw [show mInterpolate0 f xs ys = [] by unfold mInterpolate0; rw [if_neg fun h => h1 h.1], show mInterpolate1 f xs ys = false by unfold mInterpolate1; simp only [decide_eq_false_iff_not]; exact fun h => h1 h.1]
    clear hs hs2 h1
    go_enter Tryd.func20, Tryd.ntmps20
    go_wp2_with fail
    refine R.out.mono ?_
    rintro e w' ⟨rfl, q, rfl⟩
    go_wp2
    go_ret2
    exact ⟨none, 0, rfl, .inl rfl, HB.out q⟩
set_option maxRecDepth 100000 in
set_option maxHeartbeats 1600000 in
theorem sExtend (f : Int) (a : Option Addr) (xs : List Int) (cap : Nat) (a2 : Option Addr) (ys : List Int) (cap2 : Nat) (x : Int) (w : World) (hn : xs.length ≤ 1048576) (hn2 : ys.length ≤ 1048576) (hs : SrcC w a xs.length cap (lf xs)) (hs2 : Src w a2 ys.length (lf ys)) : Calls Tryd.prog 22 #[.int .i64 f, .slice a xs.length cap, .slice a2 ys.length cap2, .int .i64 x] w (IntP w (mExtend f xs ys x)) := by
  have R := Lib.hid (sInterpolate f a xs cap a2 ys cap2 w hn hn2 hs hs2)
  by_cases h : InterOk f xs ys
  · rw [show mInterpolate0 f xs ys = interL f (lf xs) (lf ys) xs.length by unfold mInterpolate0; rw [if_pos h], show mInterpolate1 f xs ys = true by unfold mInterpolate1; simp [h]] at R
    have hp := P_bd h.1.1.1 h.1.1.2
    have hq := h.is
    have hpk := hq.pok h.1.1.1 h.1.1.2 h.1.2.1.2
    have HM := Lib.hid (sModulus f)
    have HI := Lib.hid (in_c x 0 (P f - 1))
    have HEV : Hid (∀ y d W, Src W y (interL f (lf xs) (lf ys) xs.length).length (lf (interL f (lf xs) (lf ys) xs.length)) → Calls Tryd.prog 37 #[.int .i64 f, .slice y (interL f (lf xs) (lf ys) xs.length).length d, .int .i64 x] W (IntP W (evL f x (interL f (lf xs) (lf ys) xs.length)))) := Lib.hid fun y d W hS => by
      have := sEvalPoly f y (interL f (lf xs) (lf ys) xs.length) d x W (by have := hpk.2.1; omega) hS
      rwa [eval_is x hpk] at this
    have q1 : IntKind.i64.wrap (P f - 1) = P f - 1 := IntWalk.i64_in _ (by omega)
    by_cases hx : 0 ≤ x ∧ x < P f
    · rw [decide_eq_true (show 0 ≤ x ∧ x ≤ P f - 1 by omega)] at HI
      rw [show mExtend f xs ys x = evL f x (interL f (lf xs) (lf ys) xs.length) by unfold mExtend; rw [if_pos ⟨h, hx.1, hx.2⟩]]
      clear hs hs2 h hq hpk
      generalize evL f x (interL f (lf xs) (lf ys) xs.length) = E at *
      generalize interL f (lf xs) (lf ys) xs.length = L at *
      go_enter Tryd.func22, Tryd.ntmps22
      go_wp2_with fail
      refine R.out.mono ?_
      rintro e w2 ⟨y, d, rfl, s2, b2⟩
      have HS2 := Lib.hid s2
      clear s2
      go_wp2_with fail
      refine (HM.out _).mono ?_
      rintro e w' ⟨rfl, rfl⟩
      go_wp2_with fail
      refine (HI.out _).mono ?_
      rintro e w' ⟨rfl, rfl⟩
      go_wp2_with fail
      refine (HEV.out y d _ HS2.out).mono ?_
      rintro e w4 ⟨rfl, b4⟩
      have hb4 := below_up b2 b4 b2.size
      clear HS2
      go_wp2
      go_ret
      exact ⟨rfl, hb4⟩
    · rw [decide_eq_false (show ¬ (0 ≤ x ∧ x ≤ P f - 1) by omega)] at HI
      rw [show mExtend f xs ys x = -1 by unfold mExtend; rw [if_neg fun k => hx ⟨k.2.1, k.2.2⟩]]
      clear hs hs2 h hq hpk HEV
      generalize interL f (lf xs) (lf ys) xs.length = L at *
      go_enter Tryd.func22, Tryd.ntmps22
      go_wp2_with fail
      refine R.out.mono ?_
      rintro e w2 ⟨y, d, rfl, s2, b2⟩
      clear s2
      go_wp2_with fail
      refine (HM.out _).mono ?_
      rintro e w' ⟨rfl, rfl⟩
      go_wp2_with fail
      refine (HI.out _).mono ?_
      rintro e w' ⟨rfl, rfl⟩
      go_wp2
      go_ret
      exact ⟨rfl, b2⟩
  · rw [show mInterpolate0 f xs ys = [] by unfold mInterpolate0; rw [if_neg h], show mInterpolate1 f xs ys = false by unfold mInterpolate1; simp [h]] at R
    rw [show mExtend f xs ys x = -1 by unfold mExtend; rw [if_neg fun k => h k.1]]
    clear hs hs2 h
    go_enter Tryd.func22, Tryd.ntmps22
    go_wp2_with fail
    refine R.out.mono ?_
    rintro e w2 ⟨y, d, rfl, s2, b2⟩
    clear s2
    go_wp2
    go_ret
    exact ⟨rfl, b2⟩
set_option maxRecDepth 100000 in
set_option maxHeartbeats 3200000 in
theorem sWeights (f : Int) (a : Option Addr) (xs : List Int) (cap : Nat) (w : World) (hn : xs.length ≤ 1048576) (hs : SrcC w a xs.length cap (lf xs)) : Calls Tryd.prog 24 #[.int .i64 f, .slice a xs.length cap] w (ListL w (mWeights f xs)) := by
  have BA : Hid (∀ o, Below w.heap.size w (w.alloc o)) := Lib.hid fun o => (Below.refl _ _).alloc (Nat.le_refl _) o
  have R : Hid (∀ o, Calls Tryd.prog 10 #[.int .i64 f, .slice a xs.length cap] (w.alloc o) (DrewB (w.alloc o) (mPointsOk f xs))) := Lib.hid fun o => sPointsOk f a xs cap (w.alloc o) hn (hs.keep (BA.out o))
  by_cases h : PtsOk f xs
  · rw [pts_iff.2 h] at R
    rw [show mWeights f xs = wtL f xs by unfold mWeights; rw [if_pos h]]
    have hf := h.1
    have n40 := h.2.1
    obtain ⟨b, off, rfl, hlt, hc⟩ : ∃ b off, a = some ⟨b, off, none⟩ ∧ b < w.heap.size ∧ ∀ j, j < xs.length → w.cell? ⟨b, off + j, none⟩ = some (.int .i64 (lf xs j)) := by
      rcases hs.src with hq | hq
      · omega
      · exact hq
    have HC := Lib.hid hc
    have HSU : Hid (∀ x y w, Calls Tryd.prog 46 #[.int .i64 f, .int .i64 x, .int .i64 y] w fun e w' => e = .returned (.int .i64 (RS (x - y) (P f))) ∧ w = w') := Lib.hid fun x y w => by have := sSub f x y w; rwa [mSub, if_pos hf] at this
    have HMU : Hid (∀ x y w, Calls Tryd.prog 45 #[.int .i64 f, .int .i64 x, .int .i64 y] w fun e w' => e = .returned (.int .i64 (RS (x * y) (P f))) ∧ w = w') := Lib.hid fun x y w => by have := sMul f x y w; rwa [mMul, if_pos hf] at this
    have HIN := Lib.hid (sInverse f)
    have HBO := Lib.hid (fun i j => @byF_other f (lf xs) i j)
    have HF : Hid (∀ v W, W.ownsRow w.heap.size 3 1 v xs.length (xsF (fun i => mPower f (byF f (lf xs) i xs.length) (-1)) xs.length) → Below w.heap.size w W → ListL w (wtL f xs) (.returned v) W) := Lib.hid fun v W ho hb => (owns_to (w := w) (l := wtL f xs) ho (tab_len _ _).symm (fun j hj => by unfold wtL; rw [lf_tab, if_pos hj]) hb).list
    obtain ⟨i0, hi, hz0, hz1, hz2⟩ := info_parts info3
    have HI := Lib.hid hi
    have HZ0 := Lib.hid hz0
    have HZ1 := Lib.hid hz1
    have HZ2 := Lib.hid hz2
    clear hi hz0 hz1 hz2 hs hc h
    generalize wtL f xs = WL at *
    generalize lf xs = X at *
    generalize xs.length = n at *
    go_enter Tryd.func24, Tryd.ntmps24
    go_wp2_with fail
    refine (R.out _).mono ?_
    rintro e w' ⟨rfl, q0, rfl⟩
    have HO0 : Hid (((w.alloc (.cells #[] 3)).drewN q0).ownsRow w.heap.size 3 1 (.slice (some ⟨w.heap.size, 0, none⟩) 0 0) 0 (xsF (fun i => mPower f (byF f X i n) (-1)) 0)) := Lib.hid (own_empty w _)
    have HB0 := Lib.hid (below_drewN (BA.out (.cells #[] 3)) q0)
    go_wp2_with fail
    go_loopw [5, 6, 7, 8] (fun v iv _ _ wr => ∃ i : Nat, iv = .int .i64 i ∧ i ≤ n ∧ wr.ownsRow w.heap.size 3 1 v i (xsF (fun i => mPower f (byF f X i n) (-1)) i) ∧ Below w.heap.size w wr) (fun _ iv _ _ _ => n - (intOf iv).toNat)
    case atStart => exact ⟨0, rfl, Nat.zero_le _, HO0.out, HB0.out⟩
    case round =>
      clear HO0 HB0
      obtain ⟨i, rfl, hin, hown, hnx⟩ := hrel
      generalize wr = W0 at *
      by_cases h1 : i < n
      · have hd1 : decide ((i : Int) < n) = true := decide_eq_true (by omega)
        have HOW := Lib.hid hown
        have c1 : W0.cell? ⟨b, off + i, none⟩ = some (.int .i64 (X i)) := (hnx.cell (p := ⟨b, off + i, none⟩) hlt).trans (HC.out i h1)
        have hi0 : (0 : Int) ≤ (i : Int) := by omega
        have hi2 : (i : Int) < n := by omega
        clear hown
        go_wp2_with fail
        go_loopw [7, 8] (fun bv jv wr2 => ∃ j q : Nat, jv = .int .i64 j ∧ j ≤ n ∧ bv = .int .i64 (byF f X i j) ∧ wr2 = W0.drewN q) (fun _ jv _ => n - (intOf jv).toNat)
        case atStart => exact ⟨0, 0, rfl, Nat.zero_le _, rfl, rfl⟩
        case round =>
          obtain ⟨j, q, rfl, hj, rfl, rfl⟩ := hrel
          by_cases h2 : j < n
          · have hd2 : decide ((j : Int) < n) = true := decide_eq_true (by omega)
            by_cases h3 : j = i
            · subst h3
              have hd3 : ((j : Int) != j) = false := by simp
              have HB2 := Lib.hid (byF_at f X j)
              go_wp2
              go_roundw
              case rel => exact ⟨j + 1, q, by go_num, by omega, vint HB2.out.symm, rfl⟩
              case measure => simp [intOf]; omega
            · have hd3 : ((j : Int) != i) = true := by rw [bne_iff_ne]; omega
              have c2 : W0.cell? ⟨b, off + j, none⟩ = some (.int .i64 (X j)) := (hnx.cell (p := ⟨b, off + j, none⟩) hlt).trans (HC.out j h2)
              have hj0 : (0 : Int) ≤ (j : Int) := by omega
              have hj2 : (j : Int) < n := by omega
              have HB2 := Lib.hid (HBO.out i j h3)
              have HMk : Hid (∀ p2 x y, Calls Tryd.prog 45 #[.int .i64 f, .int .i64 x, .int .i64 y] (W0.drewN (q + p2)) fun e w' => e = .returned (.int .i64 (RS (x * y) (P f))) ∧ ∃ n, w' = W0.drewN (q + n)) := Lib.hid fun p2 x y => (HMU.out x y _).mono fun _ _ h => ⟨h.1, p2, h.2.symm⟩
              have HSk : Hid (∀ p2 x y, Calls Tryd.prog 46 #[.int .i64 f, .int .i64 x, .int .i64 y] (W0.drewN (q + p2)) fun e w' => e = .returned (.int .i64 (RS (x - y) (P f))) ∧ ∃ n, w' = W0.drewN (q + n)) := Lib.hid fun p2 x y => (HSU.out x y _).mono fun _ _ h => ⟨h.1, p2, h.2.symm⟩
              go_wp2
              go_quiet ((first | (go_at_call 45; exact HMk.out _ _ _) | (go_at_call 46; exact HSk.out _ _ _)))
              go_wp2
              go_roundw
              case rel => exact ⟨j + 1, _, by go_num, by omega, vint HB2.out, rfl⟩
              case measure => simp [intOf]; omega
          · have hd2 : decide ((j : Int) < n) = false := decide_eq_false (by omega)
            obtain rfl : j = n := by omega
            have hown : (W0.drewN q).ownsRow w.heap.size 3 1 _ i (xsF (fun i => mPower f (byF f X i j) (-1)) i) := HOW.out
            have hbq := below_drewN hnx q
            have hs2 := hbq.size
            have hs3 := hnx.size
            clear c1
            go_wp2_with fail
            refine (HIN.out _ _).mono ?_
            rintro e w' ⟨rfl, rfl⟩
            go_wp2_with (at_builtin; refine wpList_append_own _ rfl _ _ 22 rfl w.heap.size 3 i0 (.int .i64 0) 1 8 Tryd.underlying22 HI.out HZ0.out HZ1.out HZ2.out rfl (by decide) _ _ _ rfl (hown.alloc _) ⟨(W0.drewN q).heap.size, 0, none⟩ 1 1 [.int .i64 (mPower f (byF f X i j) (-1))] rfl rfl ?c1 ?c2 ?c3 ?c4 ?c5 ?_)
            case c1 => exact cell_one_new _ _ _
            case c2 => intro u hu; simp at hu; subst hu; rfl
            case c3 => unfold maxLen; omega
            case c4 => omega
            case c5 =>
              have hs4 : ∀ o, ((W0.drewN q).alloc o).heap.size = (W0.drewN q).heap.size + 1 := fun o => by simp [World.alloc]
              rw [hs4]
              omega
            intro v' w3 hown' hgrow _
            have hbel : Below w.heap.size w w3 := (hbq.alloc hs2 _).grown hgrow (by first | omega | (simp; omega)) (own_ge hown)
            rw [xsF_succ (fun i => mPower f (byF f X i j) (-1))] at hown'
            clear hgrow hown HOW
            go_wp2
            go_roundw
            case rel => exact ⟨i + 1, by go_num, by omega, hown', hbel⟩
            case measure => simp [intOf]; omega
      · have hd1 : decide ((i : Int) < n) = false := decide_eq_false (by omega)
        obtain rfl : i = n := by omega
        have HR := Lib.hid (HF.out _ W0 hown hnx)
        clear hown
        go_wp2
        go_ret
        exact HR.out
  · rw [pts_not.2 h] at R
    rw [show mWeights f xs = [] by unfold mWeights; rw [if_neg h]]
    have HB : Hid (∀ o q, Below w.heap.size w ((w.alloc o).drewN q)) := Lib.hid fun o q => below_drewN (BA.out o) q
    clear hs h
    go_enter Tryd.func24, Tryd.ntmps24
    go_wp2_with fail
    refine (R.out _).mono ?_
    rintro e w' ⟨rfl, q, rfl⟩
    go_wp2
    go_ret
    exact ⟨none, 0, rfl, .inl rfl, HB.out _ q⟩
end Go.Proofs.YtangofjpnhhfeaaDoor
namespace Go.Proofs.YtangofjpnhhfeaaDoor
open Go.RowKit
open Classical in
noncomputable def mCode (f : Int) (xs : List Int) (k : Int) : Bool := decide (CodeOk f xs k)
theorem code_iff {f : Int} {xs : List Int} {k : Int} : mCode f xs k = true ↔ CodeOk f xs k := by unfold mCode; simp
theorem code_not {f : Int} {xs : List Int} {k : Int} : mCode f xs k = false ↔ ¬ CodeOk f xs k := by unfold mCode; simp
theorem code_c (f : Int) (a : Option Addr) (xs : List Int) (cap : Nat) (k : Int) (w : World) (hn : xs.length ≤ 1048576) (hs : SrcC w a xs.length cap (lf xs)) : Calls Tryd.prog 49 #[.int .i64 f, .slice a xs.length cap, .int .i64 k] w (DrewB w (mCode f xs k)) := by
  have R := Lib.hid (sPointsOk f a xs cap w hn hs)
  have RI : Hid (∀ q, Calls Tryd.prog 28 #[.int .i64 k, .int .i64 1, .int .i64 xs.length] (w.drewN q) (SameB (w.drewN q) (decide (1 ≤ k ∧ k ≤ (xs.length : Int))))) := Lib.hid fun q => in_c k 1 xs.length (w.drewN q)
  clear hs
  by_cases h1 : xs.length ≤ 10
  · have hd1 : decide ((xs.length : Int) ≤ 10) = true := decide_eq_true (by omega)
    by_cases h2 : PtsOk f xs
    · rw [pts_iff.2 h2] at R
      have HR : Hid (decide (1 ≤ k ∧ k ≤ (xs.length : Int)) = mCode f xs k) := Lib.hid (by
        by_cases h3 : 1 ≤ k ∧ k ≤ (xs.length : Int)
        · rw [decide_eq_true h3, code_iff.2 ⟨h1, h2, h3⟩]
        · rw [decide_eq_false h3, code_not.2 fun h => h3 h.2.2])
      rw [HR.out] at RI
      clear h2 h1 HR
      generalize mCode f xs k = B at *
      go_enter Tryd.func49, Tryd.ntmps49
      go_wp2_with fail
      refine R.out.mono ?_
      rintro e w' ⟨rfl, q, rfl⟩
      go_wp2_with fail
      refine (RI.out q).mono ?_
      rintro e w' ⟨rfl, rfl⟩
      go_wp2
      go_ret
      exact ⟨rfl, q, rfl⟩
    · rw [pts_not.2 h2] at R
      rw [code_not.2 fun h => h2 h.2.1]
      clear h2 h1
      go_enter Tryd.func49, Tryd.ntmps49
      go_wp2_with fail
      refine R.out.mono ?_
      rintro e w' ⟨rfl, q, rfl⟩
      go_wp2
      go_ret
      exact ⟨rfl, q, rfl⟩
  · have hd1 : decide ((xs.length : Int) ≤ 10) = false := decide_eq_false (by omega)
    rw [code_not.2 fun h => h1 h.1]
    clear h1
    go_enter Tryd.func49, Tryd.ntmps49
    go_wp2
    go_ret
    exact ⟨rfl, 0, rfl⟩
theorem code_ok {f : Int} {xs : List Int} {k : Int} (h : CodeOk f xs k) : (0 ≤ f ∧ f ≤ 8) ∧ 1 ≤ xs.length ∧ xs.length ≤ 10 ∧ 1 ≤ k ∧ k ≤ 10 := ⟨h.2.1.1, h.2.1.2.1.1, h.1, h.2.2.1, by have := h.2.2.2; have := h.1; omega⟩
set_option maxRecDepth 100000 in
set_option maxHeartbeats 6400000 in
theorem enc_on (f : Int) (a : Option Addr) (xs : List Int) (cap : Nat) (a2 : Option Addr) (m : List Int) (cap2 : Nat) (w : World) (hn : xs.length ≤ 1048576) (hn2 : m.length ≤ 1048576) (hs : SrcC w a xs.length cap (lf xs)) (hs2 : SrcC w a2 m.length cap2 (lf m)) (h : EncOk f xs m) : Calls Tryd.prog 26 #[.int .i64 f, .slice a xs.length cap, .slice a2 m.length cap2] w (OwnsL w (encL f xs m)) := by
  have BA : Hid (∀ o, Below w.heap.size w (w.alloc o)) := Lib.hid fun o => (Below.refl _ _).alloc (Nat.le_refl _) o
  have R : Hid (∀ o, Calls Tryd.prog 49 #[.int .i64 f, .slice a xs.length cap, .int .i64 m.length] (w.alloc o) (DrewB (w.alloc o) true)) := Lib.hid fun o => by
    have := code_c f a xs cap m.length (w.alloc o) hn (hs.keep (BA.out o))
    rwa [code_iff.2 h.1] at this
  have RE : Hid (∀ o q, Calls Tryd.prog 29 #[.int .i64 f, .slice a2 m.length cap2] ((w.alloc o).drewN q) (SameB ((w.alloc o).drewN q) true)) := Lib.hid fun o q => by
    have := els_c f a2 m cap2 ((w.alloc o).drewN q) hn2 (hs2.src.keep (below_drewN (BA.out o) q))
    rwa [els_on h.1.2.1.1 h.2] at this
  obtain ⟨hf, x1, x10, k1, k10⟩ := code_ok h.1
  obtain ⟨b, off, rfl, hlt, hc⟩ : ∃ b off, a = some ⟨b, off, none⟩ ∧ b < w.heap.size ∧ ∀ j, j < xs.length → w.cell? ⟨b, off + j, none⟩ = some (.int .i64 (lf xs j)) := by
    rcases hs.src with hq | hq
    · omega
    · exact hq
  have HC := Lib.hid hc
  have HPC : Hid (∀ W, Below w.heap.size w W → Calls Tryd.prog 50 #[.slice a2 m.length cap2] W (OwnsL W (cutL m.length (lf m)))) := Lib.hid fun W hb => cut_c a2 m.length cap2 (lf m) W hn2 hs2.1 (hs2.src.keep hb)
  have cpol : PolOk f (cutL m.length (lf m)) := ⟨hf, by have := cutL_le m.length (lf m); omega, Pol.cut (by have := P_bd hf.1 hf.2; omega) h.2⟩
  have HPE : Hid (∀ (y : Option Addr) (d : Nat) (x : Int) W, Src W y (cutL m.length (lf m)).length (lf (cutL m.length (lf m))) → Calls Tryd.prog 37 #[.int .i64 f, .slice y (cutL m.length (lf m)).length d, .int .i64 x] W (IntP W (RS (evN x (lf m) m.length) (P f)))) := Lib.hid fun y d x W hy => by
    have := sEvalPoly f y (cutL m.length (lf m)) d x W (by have := cpol.2.1; omega) hy
    rwa [eval_is x cpol, evL_n (cutL_le m.length (lf m)), lf_cut_self] at this
  have HF : Hid (∀ v W, W.ownsRow w.heap.size 3 1 v xs.length (xsF (fun i => RS (evN (lf xs i) (lf m) m.length) (P f)) xs.length) → Below w.heap.size w W → OwnsL w (encL f xs m) (.returned v) W) := Lib.hid fun v W ho hb => owns_to (w := w) (l := encL f xs m) ho (tab_len _ _).symm (fun j hj => by unfold encL; rw [lf_tab, if_pos hj]) hb
  obtain ⟨i0, hi, hz0, hz1, hz2⟩ := info_parts info3
  have HI := Lib.hid hi
  have HZ0 := Lib.hid hz0
  have HZ1 := Lib.hid hz1
  have HZ2 := Lib.hid hz2
  clear hi hz0 hz1 hz2 hs hs2 hc h cpol
  generalize encL f xs m = EL at *
  generalize cutL m.length (lf m) = CL at *
  generalize lf m = M at *
  generalize lf xs = X at *
  generalize xs.length = n at *
  generalize m.length = r at *
  go_enter Tryd.func26, Tryd.ntmps26
  go_wp2_with fail
  refine (R.out _).mono ?_
  rintro e w' ⟨rfl, q0, rfl⟩
  have HO0 : Hid (((w.alloc (.cells #[] 3)).drewN q0).ownsRow w.heap.size 3 1 (.slice (some ⟨w.heap.size, 0, none⟩) 0 0) 0 (xsF (fun i => RS (evN (X i) M r) (P f)) 0)) := Lib.hid (own_empty w _)
  have HB0 := Lib.hid (below_drewN (BA.out (.cells #[] 3)) q0)
  go_wp2_with fail
  refine (RE.out _ _).mono ?_
  rintro e w' ⟨rfl, rfl⟩
  clear R RE
  go_wp2_with fail
  go_loopw [7, 8] (fun v iv wr => ∃ i : Nat, iv = .int .i64 i ∧ i ≤ n ∧ wr.ownsRow w.heap.size 3 1 v i (xsF (fun i => RS (evN (X i) M r) (P f)) i) ∧ Below w.heap.size w wr) (fun _ iv _ => n - (intOf iv).toNat)
  case atStart => exact ⟨0, rfl, Nat.zero_le _, HO0.out, HB0.out⟩
  case round =>
    clear HO0 HB0
    obtain ⟨i, rfl, hin, hown, hnx⟩ := hrel
    by_cases h1 : i < n
    · have hd1 : decide ((i : Int) < n) = true := decide_eq_true (by omega)
      have hge := own_ge hown
      have hsz := hnx.size
      have kX : wr.cell? ⟨b, off + i, none⟩ = some (.int .i64 (X i)) := (hnx.cell (p := ⟨b, off + i, none⟩) hlt).trans (HC.out i h1)
      have kXd : wr.drew.cell? ⟨b, off + i, none⟩ = some (.int .i64 (X i)) := kX
      have hi0 : (0 : Int) ≤ (i : Int) := by omega
      have hi2 : (i : Int) < n := by omega
      have hbd : Below w.heap.size w wr.drew := hnx.drew
      have hwd : Below wr.heap.size wr wr.drew := (Below.refl _ _).drew
      go_wp2_with fail
      go_region_held3 (fun W => W.cell? ⟨b, off + i, none⟩ = some (.int .i64 (X i)))
        (first
          | exact kX
          | exact kXd
          | exact kX4
          | exact kX5
          | go_keep
          | (rw [hgrow.cell_far _ (by simp; omega) (fun e => by have h9 : w.heap.size ≤ b := hge _ e.symm; omega)]; assumption))
        (first
          | (go_at_call 50; refine (HPC.out _ hbd).mono ?_; intro e w4 h4; obtain ⟨y4, d4, rfl, s4, b4⟩ := h4.room; have b5 := below_up hwd b4 hwd.size; have kX4 := (b4.cell (p := ⟨b, off + i, none⟩) (block_lt_of_cell kXd)).trans kXd)
          | (go_at_call 37; refine (HPE.out y4 d4 (X i) _ s4.2).mono ?_; rintro e w5 ⟨rfl, b6⟩; have b7 := below_up b5 b6 b5.size; have b8 := below_up hnx b7 hsz; have hs8 := b8.size; have kX5 := (b6.cell (p := ⟨b, off + i, none⟩) (block_lt_of_cell kX4)).trans kX4; have hown5 := owns_keep hown b7)
          | (refine step_append_lies _ (by rfl) _ _ _ (by rfl) w.heap.size 3 i0 _ 1 8 Tryd.underlying22 HI.out HZ0.out HZ1.out HZ2.out rfl (by omega) _ i _ (by rfl) (hown5.alloc _) ⟨w5.heap.size, 0, none⟩ 1 1 [.int .i64 (RS (evN (X i) M r) (P f))] (by rfl) (by rfl) (World.news_of_block (cs := #[.int .i64 (RS (evN (X i) M r) (P f))]) (t := 3) (fr := (0, 0)) (heap_alloc_new w5 _)) (by simp [Value.oneCell']) (by omega) (by unfold maxLen; omega) (by omega) (by simp; omega) (w5.heap.size + 1) (by simp) ?_; intro gg cap' w1 hown' hgrow hat hlt'))
      all_goals
        have hbel : Below w.heap.size w w1 := (b8.alloc hs8 _).grown hgrow (by simp; omega) hge
        rw [xsF_succ (fun i => RS (evN (X i) M r) (P f))] at hown'
        clear hgrow hown hown5 kX kXd kX4 kX5 s4 b4 b5 b6 b7 b8 hat hlt'
        go_wp2
        go_roundw
      case rel => exact ⟨i + 1, by go_num, by omega, hown', hbel⟩
      case measure => simp [intOf]; omega
    · have hd1 : decide ((i : Int) < n) = false := decide_eq_false (by omega)
      obtain rfl : i = n := by omega
      have HR := Lib.hid (HF.out _ wr hown hnx)
      clear hown
      go_wp2
      go_ret
      exact HR.out
theorem sEncodeWord (f : Int) (a : Option Addr) (xs : List Int) (cap : Nat) (a2 : Option Addr) (m : List Int) (cap2 : Nat) (w : World) (hn : xs.length ≤ 1048576) (hn2 : m.length ≤ 1048576) (hs : SrcC w a xs.length cap (lf xs)) (hs2 : SrcC w a2 m.length cap2 (lf m)) : Calls Tryd.prog 26 #[.int .i64 f, .slice a xs.length cap, .slice a2 m.length cap2] w (ListL w (mEncodeWord f xs m)) := by
  by_cases h : EncOk f xs m
  · rw [show mEncodeWord f xs m = encL f xs m by unfold mEncodeWord; rw [if_pos h]]
    exact (enc_on f a xs cap a2 m cap2 w hn hn2 hs hs2 h).mono fun _ _ h => h.list
  · rw [show mEncodeWord f xs m = [] by unfold mEncodeWord; rw [if_neg h]]
    have BA : Hid (∀ o, Below w.heap.size w (w.alloc o)) := Lib.hid fun o => (Below.refl _ _).alloc (Nat.le_refl _) o
    have HB : Hid (∀ o q, Below w.heap.size w ((w.alloc o).drewN q)) := Lib.hid fun o q => below_drewN (BA.out o) q
    have R : Hid (∀ o, Calls Tryd.prog 49 #[.int .i64 f, .slice a xs.length cap, .int .i64 m.length] (w.alloc o) (DrewB (w.alloc o) (mCode f xs m.length))) := Lib.hid fun o => code_c f a xs cap m.length (w.alloc o) hn (hs.keep (BA.out o))
    by_cases h2 : CodeOk f xs m.length
    · rw [code_iff.2 h2] at R
      have RE : Hid (∀ o q, Calls Tryd.prog 29 #[.int .i64 f, .slice a2 m.length cap2] ((w.alloc o).drewN q) (SameB ((w.alloc o).drewN q) false)) := Lib.hid fun o q => by
        have := els_c f a2 m cap2 ((w.alloc o).drewN q) hn2 (hs2.src.keep (below_drewN (BA.out o) q))
        rwa [els_off fun h3 => h ⟨h2, h3.2⟩] at this
      clear hs hs2 h h2
      go_enter Tryd.func26, Tryd.ntmps26
      go_wp2_with fail
      refine (R.out _).mono ?_
      rintro e w' ⟨rfl, q, rfl⟩
      go_wp2_with fail
      refine (RE.out _ q).mono ?_
      rintro e w' ⟨rfl, rfl⟩
      go_wp2
      go_ret
      exact ⟨none, 0, rfl, .inl rfl, HB.out _ q⟩
    · rw [code_not.2 h2] at R
      clear hs hs2 h h2
      go_enter Tryd.func26, Tryd.ntmps26
      go_wp2_with fail
      refine (R.out _).mono ?_
      rintro e w' ⟨rfl, q, rfl⟩
      go_wp2
      go_ret
      exact ⟨none, 0, rfl, .inl rfl, HB.out _ q⟩
end Go.Proofs.YtangofjpnhhfeaaDoor
namespace Go.Proofs.YtangofjpnhhfeaaDoor
open Go.RowKit
theorem tree_pts (f : Int) (a : Option Addr) (l : List Int) (cap : Nat) (w : World) (hs : SrcC w a l.length cap (lf l)) (ht : Tab w) (h : PtsOk f l) : Calls Tryd.prog 35 #[.int .i64 f, .slice a l.length cap] w (TreeR f l.length (lf l) w) :=
  tree_c f h.1.1 h.1.2 l.length a cap (lf l) w ht h.2.1.1 h.2.1.2 hs.1 h.2.2.1 hs.2
theorem tree_nil (f : Int) (a : Option Addr) (cap : Nat) (w : World) : Calls Tryd.prog 35 #[.int .i64 f, .slice a 0 cap] w fun e w' => e = .returned (.pointer none) ∧ w = w' := by
  go_enter Tryd.func35, Tryd.ntmps35
  go_wp2
  go_ret
  exact ⟨rfl, rfl⟩
set_option maxRecDepth 100000 in
theorem iVanish (f : Int) (a : Option Addr) (l : List Int) (cap : Nat) (w : World) (hn : l.length ≤ 1048576) (hs : SrcC w a l.length cap (lf l)) (ht : Tab w) : Calls Tryd.prog 15 #[.int .i64 f, .slice a l.length cap] w (OwnL w (mVanish f l)) := by
  have HP := Lib.hid (iPointsOk f a l cap w hn hs ht)
  by_cases h : PtsOk f l
  · have HT := Lib.hid (tree_pts f a l cap w hs ht h)
    rw [pts_iff.2 h] at HP
    have hv := vanL_len h.1.1 h.1.2 (lf l) l.length
    have HF : Hid (∀ (g : Nat) (w' : World), w.heap.size ≤ g → Own w' g (l.length + 1) (lf (vanL f (lf l) l.length)) → Below w.heap.size w w' → OwnL w (mVanish f l) (.returned (.slice (some ⟨g, 0, none⟩) (l.length + 1) (l.length + 1))) w') := Lib.hid fun g w' hg ho hb => by
      unfold mVanish
      rw [if_pos h]
      rw [← hv] at ho ⊢
      exact OwnG.own ⟨g, rfl, hg, ho, hb⟩
    clear hs ht h hv
    generalize mVanish f l = R at *
    go_enter Tryd.func15, Tryd.ntmps15
    go_wp2_with fail
    refine HP.out.mono ?_
    rintro e w' ⟨rfl, rfl⟩
    go_wp2_with fail
    refine HT.out.mono ?_
    rintro e w1 ⟨b, g, pl, pr, rfl, hg, hN, hO, _, hb⟩
    have c1 := hN.2.1
    have HR := Lib.hid (HF.out g w1 hg hO hb)
    clear hN hO hb
    go_wp2
    go_ret
    exact HR.out
  · rw [pts_not.2 h] at HP
    have HR : Hid (OwnL w (mVanish f l) (.returned (.slice none 0 0)) w) := Lib.hid (by
      unfold mVanish
      rw [if_neg h]
      exact ⟨none, 0, rfl, OwnA.nil rfl, Below.refl _ _⟩)
    clear hs ht h
    go_enter Tryd.func15, Tryd.ntmps15
    go_wp2_with fail
    refine HP.out.mono ?_
    rintro e w' ⟨rfl, rfl⟩
    go_wp2
    go_ret
    exact HR.out
theorem len_mVanish (f : Int) (l : List Int) (_n : l.length ≤ 1048576) : (mVanish f l).length ≤ 1048576 := by
  unfold mVanish
  split
  · rename_i h
    rw [vanL_len h.1.1 h.1.2]
    have := h.2.1.2
    omega
  · simp
set_option maxRecDepth 100000 in
theorem iWeights (f : Int) (a : Option Addr) (l : List Int) (cap : Nat) (w : World) (hn : l.length ≤ 1048576) (hs : SrcC w a l.length cap (lf l)) (ht : Tab w) : Calls Tryd.prog 25 #[.int .i64 f, .slice a l.length cap] w (OwnL w (mWeights f l)) := by
  have HP := Lib.hid (iPointsOk f a l cap w hn hs ht)
  by_cases h : PtsOk f l
  · have HT := Lib.hid (tree_pts f a l cap w hs ht h)
    rw [pts_iff.2 h] at HP
    have HW : Hid (∀ (b g : Nat) (pl pr : Option Addr) (w1 : World), NodeW w1 b f g l.length pl pr → Own w1 g (l.length + 1) (lf (vanL f (lf l) l.length)) → TreeW f w1 l.length (some ⟨b, 0, none⟩) (lf l) l.length → Below w.heap.size w w1 → Calls Tryd.prog 48 #[.pointer (some ⟨b, 0, none⟩)] w1 (OwnL w (mWeights f l))) := Lib.hid fun b g pl pr w1 hN hO hT hb => by
      refine (weights_c f h.1.1 h.1.2 l.length b g l.length pl pr (lf l) w1 hT hN hO h.2.1.1 h.2.1.2 (ht.below hb) h.dist).mono fun e w' h2 => ?_
      unfold mWeights
      rw [if_pos h]
      exact (h2.up hb).own
    clear hs ht h
    generalize mWeights f l = R at *
    go_enter Tryd.func25, Tryd.ntmps25
    go_wp2_with fail
    refine HP.out.mono ?_
    rintro e w' ⟨rfl, rfl⟩
    go_wp2_with fail
    refine HT.out.mono ?_
    rintro e w1 ⟨b, g, pl, pr, rfl, hg, hN, hO, hT, hb⟩
    have HW2 := Lib.hid (HW.out b g pl pr w1 hN hO hT hb)
    clear hN hO hb hT
    go_wp2_with fail
    refine HW2.out.mono ?_
    intro e w2 h2
    have HR := Lib.hid h2
    obtain ⟨a2, cap2, rfl, _⟩ := h2
    go_wp2
    go_ret
    exact HR.out
  · rw [pts_not.2 h] at HP
    have HR : Hid (OwnL w (mWeights f l) (.returned (.slice none 0 0)) w) := Lib.hid (by
      unfold mWeights
      rw [if_neg h]
      exact ⟨none, 0, rfl, OwnA.nil rfl, Below.refl _ _⟩)
    clear hs ht h
    go_enter Tryd.func25, Tryd.ntmps25
    go_wp2_with fail
    refine HP.out.mono ?_
    rintro e w' ⟨rfl, rfl⟩
    go_wp2
    go_ret
    exact HR.out
theorem len_mWeights (f : Int) (l : List Int) (_n : l.length ≤ 1048576) : (mWeights f l).length ≤ 1048576 := by
  unfold mWeights
  split
  · unfold wtL; rw [tab_len]; exact _n
  · simp
set_option maxRecDepth 100000 in
theorem iEvalMany (f : Int) (a : Option Addr) (l : List Int) (cap : Nat) (a2 : Option Addr) (xs : List Int) (cap2 : Nat) (w : World) (hn : l.length ≤ 1048576) (hn2 : xs.length ≤ 1048576) (hs : SrcC w a l.length cap (lf l)) (hs2 : SrcC w a2 xs.length cap2 (lf xs)) (ht : Tab w) : Calls Tryd.prog 19 #[.int .i64 f, .slice a l.length cap, .slice a2 xs.length cap2] w (OwnLM w (mEvalMany f l xs)) := by
  have HP := Lib.hid (iPolyOk f a l cap w hn hs.src ht)
  by_cases h1 : PolOk f l
  · rw [pok_iff.2 h1] at HP
    by_cases h2 : xs.length ≤ 40
    · have hd : decide ((40 : Int) < xs.length) = false := decide_eq_false (by omega)
      by_cases h3 : ElsOk f xs
      · have HA := Lib.hid (hasAll_c f a2 xs cap2 w ht h1.1.1 h1.1.2 hn2 hs2.src true (by simp; exact h3))
        by_cases hz : xs.length = 0
        · have HR : Hid (OwnLM w (mEvalMany f l xs) (.returned (.slice none 0 0)) w) := Lib.hid (nil_m (by
            unfold mEvalMany manyL
            split
            · rw [hz]; rfl
            · rfl) (Below.refl _ _))
          rw [hz] at HA hd ⊢
          clear hs hs2 ht h1 h3 hz h2 hn2
          go_enter Tryd.func19, Tryd.ntmps19
          go_wp2_with fail
          refine HP.out.mono ?_
          rintro e w' ⟨rfl, rfl⟩
          go_wp2_with fail
          refine HA.out.mono ?_
          rintro e w' ⟨rfl, rfl⟩
          go_wp2_with fail
          refine (tree_nil f a2 cap2 w).mono ?_
          rintro e w' ⟨rfl, rfl⟩
          go_wp2_with fail
          refine (values_nil _ w).mono ?_
          rintro e w' ⟨rfl, rfl⟩
          go_wp2
          go_ret
          exact HR.out
        · have HT := Lib.hid (tree_c f h1.1.1 h1.1.2 xs.length a2 cap2 (lf xs) w ht (by omega) h2 hs2.1 h3 hs2.2)
          have HV : Hid (∀ (b : Nat) (w1 : World), TreeW f w1 xs.length (some ⟨b, 0, none⟩) (lf xs) xs.length → Below w.heap.size w w1 → Calls Tryd.prog 39 #[.pointer (some ⟨b, 0, none⟩), .slice a l.length cap] w1 (OwnLM w (mEvalMany f l xs))) := Lib.hid fun b w1 hT hb => by
            refine (values_c f h1.1.1 h1.1.2 xs.length _ (lf xs) xs.length a l cap w1 hT h2 (ht.below hb) h1.2.2 (by have := h1.2.1; omega) (hs.src.keep hb)).mono fun e w' h4 => ?_
            have h5 := (h4.up hb hb.size).m
            unfold mEvalMany
            rw [if_pos ⟨h1, h2, h3⟩]
            exact h5
          clear hs hs2 ht h1 h3 hz
          generalize mEvalMany f l xs = R at *
          go_enter Tryd.func19, Tryd.ntmps19
          go_wp2_with fail
          refine HP.out.mono ?_
          rintro e w' ⟨rfl, rfl⟩
          go_wp2_with fail
          refine HA.out.mono ?_
          rintro e w' ⟨rfl, rfl⟩
          go_wp2_with fail
          refine HT.out.mono ?_
          rintro e w1 ⟨b, g, pl, pr, rfl, hg, hN, hO, hT, hb⟩
          have HV2 := Lib.hid (HV.out b w1 hT hb)
          clear hN hO hb hT
          go_wp2_with fail
          refine HV2.out.mono ?_
          intro e w2 h2
          have HR := Lib.hid h2
          obtain ⟨a2, cap2, rfl, _⟩ := h2
          go_wp2
          go_ret
          exact HR.out
      · have HA := Lib.hid (hasAll_c f a2 xs cap2 w ht h1.1.1 h1.1.2 hn2 hs2.src false (by simp; exact h3))
        have HR : Hid (OwnLM w (mEvalMany f l xs) (.returned (.slice none 0 0)) w) := Lib.hid (nil_m (by unfold mEvalMany; rw [if_neg fun h => h3 h.2.2]) (Below.refl _ _))
        clear hs hs2 ht h1 h3
        go_enter Tryd.func19, Tryd.ntmps19
        go_wp2_with fail
        refine HP.out.mono ?_
        rintro e w' ⟨rfl, rfl⟩
        go_wp2_with fail
        refine HA.out.mono ?_
        rintro e w' ⟨rfl, rfl⟩
        go_wp2
        go_ret
        exact HR.out
    · have hd : decide ((40 : Int) < xs.length) = true := decide_eq_true (by omega)
      have HR : Hid (OwnLM w (mEvalMany f l xs) (.returned (.slice none 0 0)) w) := Lib.hid (nil_m (by unfold mEvalMany; rw [if_neg fun h => h2 h.2.1]) (Below.refl _ _))
      clear hs hs2 ht h1
      go_enter Tryd.func19, Tryd.ntmps19
      go_wp2_with fail
      refine HP.out.mono ?_
      rintro e w' ⟨rfl, rfl⟩
      go_wp2
      go_ret
      exact HR.out
  · rw [pok_not.2 h1] at HP
    have HR : Hid (OwnLM w (mEvalMany f l xs) (.returned (.slice none 0 0)) w) := Lib.hid (nil_m (by unfold mEvalMany; rw [if_neg fun h => h1 h.1]) (Below.refl _ _))
    clear hs hs2 ht h1
    go_enter Tryd.func19, Tryd.ntmps19
    go_wp2_with fail
    refine HP.out.mono ?_
    rintro e w' ⟨rfl, rfl⟩
    go_wp2
    go_ret
    exact HR.out
theorem len_mEvalMany (f : Int) (l xs : List Int) (_n : l.length ≤ 1048576) (n2 : xs.length ≤ 1048576) : (mEvalMany f l xs).length ≤ 1048576 := by
  unfold mEvalMany
  split
  · unfold manyL; rw [tab_len]; exact n2
  · simp
set_option maxRecDepth 100000 in
theorem iInterpolate (f : Int) (a : Option Addr) (l : List Int) (cap : Nat) (a2 : Option Addr) (m : List Int) (cap2 : Nat) (w : World) (hn : l.length ≤ 1048576) (hn2 : m.length ≤ 1048576) (hs : SrcC w a l.length cap (lf l)) (hs2 : SrcC w a2 m.length cap2 (lf m)) (ht : Tab w) : Calls Tryd.prog 21 #[.int .i64 f, .slice a l.length cap, .slice a2 m.length cap2] w (OwnLB w (mInterpolate0 f l m) (mInterpolate1 f l m)) := by
  have HP := Lib.hid (iPointsOk f a l cap w hn hs ht)
  have HO : ¬ InterOk f l m → Hid (OwnLB w (mInterpolate0 f l m) (mInterpolate1 f l m) (.returned (.tuple #[.slice none 0 0, .bool false])) w) := fun h => Lib.hid (NilB.own (by unfold mInterpolate0; rw [if_neg h]) (by unfold mInterpolate1; simp [h]) ⟨rfl, Below.refl _ _⟩)
  by_cases h1 : PtsOk f l
  · rw [pts_iff.2 h1] at HP
    by_cases h2 : m.length = l.length
    · have e2 : ((m.length : Int) != l.length) = false := by simp [h2]
      by_cases h3 : ElsOk f m
      · have HA := Lib.hid (hasAll_c f a2 m cap2 w ht h1.1.1 h1.1.2 hn2 hs2.src true (by simp; exact h3))
        have HT := Lib.hid (tree_pts f a l cap w hs ht h1)
        have HV : Hid (∀ (b g : Nat) (pl pr : Option Addr) (w1 : World), NodeW w1 b f g l.length pl pr → Own w1 g (l.length + 1) (lf (vanL f (lf l) l.length)) → TreeW f w1 l.length (some ⟨b, 0, none⟩) (lf l) l.length → Below w.heap.size w w1 → Calls Tryd.prog 41 #[.pointer (some ⟨b, 0, none⟩), .slice a2 m.length cap2] w1 (OwnG w (interL f (lf l) (lf m) l.length))) := Lib.hid fun b g pl pr w1 hN hO hT hb => by
          have := through_u f h1.1.1 h1.1.2 b g l.length pl pr (lf l) (lf m) a2 cap2 w1 hT hN hO h1.2.1.1 h1.2.1.2 (ht.below hb) h1.dist (fun j hj => h3 j (by rw [h2]; exact hj)) (by rw [← h2]; exact hs2.src.keep hb)
          rw [← h2] at this ⊢
          exact this.mono fun e w' h4 => h4.up hb
        have HR : Hid (∀ (g : Nat) (w' : World), w.heap.size ≤ g → Own w' g (interL f (lf l) (lf m) l.length).length (lf (interL f (lf l) (lf m) l.length)) → Below w.heap.size w w' → OwnLB w (mInterpolate0 f l m) (mInterpolate1 f l m) (.returned (.tuple #[.slice (some ⟨g, 0, none⟩) (interL f (lf l) (lf m) l.length).length (interL f (lf l) (lf m) l.length).length, .bool true])) w') := Lib.hid fun g w' hg ho hb => by
          have ho0 : InterOk f l m := ⟨h1, h2, h3⟩
          rw [show mInterpolate0 f l m = interL f (lf l) (lf m) l.length by unfold mInterpolate0; rw [if_pos ho0], show mInterpolate1 f l m = true by unfold mInterpolate1; simp [ho0]]
          exact OwnG.finishB hg ho hb
        have e3 : decide (m.length = l.length) = true := decide_eq_true h2
        clear hs hs2 ht h1 h3 HO h2
        generalize interL f (lf l) (lf m) l.length = V at *
        generalize m.length = M at *
        go_enter Tryd.func21, Tryd.ntmps21
        go_wp2_with fail
        refine HP.out.mono ?_
        rintro e w' ⟨rfl, rfl⟩
        go_wp2_with fail
        refine HA.out.mono ?_
        rintro e w' ⟨rfl, rfl⟩
        go_wp2_with fail
        refine HT.out.mono ?_
        rintro e w1 ⟨b, g, pl, pr, rfl, hg, hN, hO, hT, hb⟩
        have HV2 := Lib.hid (HV.out b g pl pr w1 hN hO hT hb)
        clear hN hO hb hT
        go_wp2_with fail
        refine HV2.out.mono ?_
        rintro e w2 ⟨g2, rfl, hg2, o2, b2⟩
        have HR2 := Lib.hid (HR.out g2 w2 hg2 o2 b2)
        clear o2 b2
        go_wp2
        go_ret2
        exact HR2.out
      · have HA := Lib.hid (hasAll_c f a2 m cap2 w ht h1.1.1 h1.1.2 hn2 hs2.src false (by simp; exact h3))
        have HR := HO fun h => h3 h.2.2
        have e3 : decide (m.length = l.length) = true := decide_eq_true h2
        clear hs hs2 ht h1 h3 HO h2
        generalize m.length = M at *
        go_enter Tryd.func21, Tryd.ntmps21
        go_wp2_with fail
        refine HP.out.mono ?_
        rintro e w' ⟨rfl, rfl⟩
        go_wp2_with fail
        refine HA.out.mono ?_
        rintro e w' ⟨rfl, rfl⟩
        go_wp2
        go_ret2
        exact HR.out
    · have e2 : ((m.length : Int) != l.length) = true := by simp; omega
      have HR := HO fun h => h2 h.2.1
      clear hs hs2 ht h1 HO h2
      generalize m.length = M at *
      go_enter Tryd.func21, Tryd.ntmps21
      go_wp2_with fail
      refine HP.out.mono ?_
      rintro e w' ⟨rfl, rfl⟩
      go_wp2
      go_ret2
      exact HR.out
  · rw [pts_not.2 h1] at HP
    have HR := HO fun h => h1 h.1
    clear hs hs2 ht h1 HO
    go_enter Tryd.func21, Tryd.ntmps21
    go_wp2_with fail
    refine HP.out.mono ?_
    rintro e w' ⟨rfl, rfl⟩
    go_wp2
    go_ret2
    exact HR.out
theorem len_mInterpolate0 (f : Int) (l m : List Int) (_n : l.length ≤ 1048576) (_n2 : m.length ≤ 1048576) : (mInterpolate0 f l m).length ≤ 1048576 := by
  unfold mInterpolate0
  split
  · rename_i h
    have := h.is.2.1
    have := h.1.2.1.2
    omega
  · simp
end Go.Proofs.YtangofjpnhhfeaaDoor
namespace Go.Proofs.YtangofjpnhhfeaaDoor
open Go.RowKit
set_option maxRecDepth 100000 in
theorem iExtend (f : Int) (a : Option Addr) (l : List Int) (cap : Nat) (a2 : Option Addr) (m : List Int) (cap2 : Nat) (x : Int) (w : World) (hn : l.length ≤ 1048576) (hn2 : m.length ≤ 1048576) (hs : SrcC w a l.length cap (lf l)) (hs2 : SrcC w a2 m.length cap2 (lf m)) (ht : Tab w) : Calls Tryd.prog 23 #[.int .i64 f, .slice a l.length cap, .slice a2 m.length cap2, .int .i64 x] w (IntP w (mExtend f l m x)) := by
  have HI := Lib.hid (iInterpolate f a l cap a2 m cap2 w hn hn2 hs hs2 ht)
  by_cases h1 : InterOk f l m
  · have hf := h1.1.1
    have hq := h1.is
    have hl := h1.1.2.1.2
    rw [show mInterpolate0 f l m = interL f (lf l) (lf m) l.length by unfold mInterpolate0; rw [if_pos h1], show mInterpolate1 f l m = true by unfold mInterpolate1; simp [h1]] at HI
    by_cases h2 : 0 ≤ x ∧ x < P f
    · have HX : Hid (∀ w1, Below w.heap.size w w1 → Calls Tryd.prog 43 #[.int .i64 f, .int .i64 x] w1 (SameB w1 true)) := Lib.hid fun w1 hb => by
        have := hasX_c f x w1 (ht.below hb) hf.1 hf.2
        rwa [decide_eq_true h2] at this
      have HV : Hid (∀ (a3 : Option Addr) (c3 : Nat) (w1 : World), Below w.heap.size w w1 → Src w1 a3 (interL f (lf l) (lf m) l.length).length (lf (interL f (lf l) (lf m) l.length)) → Calls Tryd.prog 44 #[.int .i64 f, .slice a3 (interL f (lf l) (lf m) l.length).length c3, .int .i64 x] w1 (IntP w (mExtend f l m x))) := Lib.hid fun a3 c3 w1 hb hs3 => by
        refine (value_c f x a3 (interL f (lf l) (lf m) l.length) c3 w1 (ht.below hb) hf.1 hf.2 (by have := hq.2.1; omega) h2.1 h2.2 hq.1 hs3).mono fun e w' h => ?_
        rw [show mExtend f l m x = evL f x (interL f (lf l) (lf m) l.length) by unfold mExtend; rw [if_pos ⟨h1, h2⟩]]
        exact ⟨h.1, below_up hb h.2 hb.size⟩
      clear hs hs2 ht h1 h2 hq
      generalize interL f (lf l) (lf m) l.length = V at *
      generalize mExtend f l m x = R at *
      go_enter Tryd.func23, Tryd.ntmps23
      go_wp2_with fail
      refine HI.out.mono ?_
      rintro e w1 ⟨a3, c3, rfl, o3, b3⟩
      have HX2 := Lib.hid (HX.out w1 b3)
      have HV2 := Lib.hid (HV.out a3 c3 w1 b3 o3.src)
      clear o3
      go_wp2_with fail
      refine HX2.out.mono ?_
      rintro e w' ⟨rfl, rfl⟩
      go_wp2_with fail
      refine HV2.out.mono ?_
      rintro e w2 ⟨rfl, b4⟩
      go_wp2
      go_ret
      exact ⟨rfl, b4⟩
    · have HX : Hid (∀ w1, Below w.heap.size w w1 → Calls Tryd.prog 43 #[.int .i64 f, .int .i64 x] w1 (SameB w1 false)) := Lib.hid fun w1 hb => by
        have := hasX_c f x w1 (ht.below hb) hf.1 hf.2
        rwa [decide_eq_false h2] at this
      rw [show mExtend f l m x = -1 by unfold mExtend; rw [if_neg fun h => h2 h.2]]
      clear hs hs2 ht h1 h2 hq
      generalize interL f (lf l) (lf m) l.length = V at *
      go_enter Tryd.func23, Tryd.ntmps23
      go_wp2_with fail
      refine HI.out.mono ?_
      rintro e w1 ⟨a3, c3, rfl, o3, b3⟩
      have HX2 := Lib.hid (HX.out w1 b3)
      clear o3
      go_wp2_with fail
      refine HX2.out.mono ?_
      rintro e w' ⟨rfl, rfl⟩
      go_wp2
      go_ret
      exact ⟨rfl, b3⟩
  · rw [show mInterpolate1 f l m = false by unfold mInterpolate1; simp [h1]] at HI
    rw [show mExtend f l m x = -1 by unfold mExtend; rw [if_neg fun h => h1 h.1]]
    clear hs hs2 ht h1
    generalize mInterpolate0 f l m = V at *
    go_enter Tryd.func23, Tryd.ntmps23
    go_wp2_with fail
    refine HI.out.mono ?_
    rintro e w1 ⟨a3, c3, rfl, o3, b3⟩
    clear o3
    go_wp2
    go_ret
    exact ⟨rfl, b3⟩
set_option maxRecDepth 100000 in
theorem isCode_c (f : Int) (a : Option Addr) (l : List Int) (cap : Nat) (k : Int) (w : World) (hn : l.length ≤ 1048576) (hs : SrcC w a l.length cap (lf l)) (ht : Tab w) : Calls Tryd.prog 51 #[.int .i64 f, .slice a l.length cap, .int .i64 k] w (SameB w (mCode f l k)) := by
  have HP := Lib.hid (iPointsOk f a l cap w hn hs ht)
  clear hs ht
  by_cases h1 : l.length ≤ 10
  · have hd1 : decide ((l.length : Int) ≤ 10) = true := decide_eq_true (by omega)
    by_cases h2 : PtsOk f l
    · rw [pts_iff.2 h2] at HP
      by_cases h3 : 1 ≤ k
      · have hd3 : decide ((1 : Int) ≤ k) = true := decide_eq_true h3
        have HR : Hid (mCode f l k = decide (k ≤ (l.length : Int))) := Lib.hid (by
          by_cases h4 : k ≤ (l.length : Int)
          · rw [decide_eq_true h4, code_iff.2 ⟨h1, h2, h3, h4⟩]
          · rw [decide_eq_false h4, code_not.2 fun h => h4 h.2.2.2])
        rw [HR.out]
        clear h1 h2 HR
        generalize l.length = n at *
        obtain ⟨B, hB⟩ : ∃ B, decide (k ≤ (n : Int)) = B := ⟨_, rfl⟩
        go_enter Tryd.func51, Tryd.ntmps51
        go_wp2_with fail
        refine HP.out.mono ?_
        rintro e w' ⟨rfl, rfl⟩
        go_wp2
        go_ret
        exact ⟨by rw [hB]; rfl, rfl⟩
      · have hd3 : decide ((1 : Int) ≤ k) = false := decide_eq_false h3
        rw [code_not.2 fun h => h3 h.2.2.1]
        clear h1 h2 h3
        go_enter Tryd.func51, Tryd.ntmps51
        go_wp2_with fail
        refine HP.out.mono ?_
        rintro e w' ⟨rfl, rfl⟩
        go_wp2
        go_ret
        exact ⟨rfl, rfl⟩
    · rw [pts_not.2 h2] at HP
      rw [code_not.2 fun h => h2 h.2.1]
      clear h1 h2
      go_enter Tryd.func51, Tryd.ntmps51
      go_wp2_with fail
      refine HP.out.mono ?_
      rintro e w' ⟨rfl, rfl⟩
      go_wp2
      go_ret
      exact ⟨rfl, rfl⟩
  · have hd1 : decide ((l.length : Int) ≤ 10) = false := decide_eq_false (by omega)
    rw [code_not.2 fun h => h1 h.1]
    clear h1 HP
    go_enter Tryd.func51, Tryd.ntmps51
    go_wp2
    go_ret
    exact ⟨rfl, rfl⟩
set_option maxRecDepth 100000 in
theorem iEncodeWord (f : Int) (a : Option Addr) (l : List Int) (cap : Nat) (a2 : Option Addr) (m : List Int) (cap2 : Nat) (w : World) (hn : l.length ≤ 1048576) (hn2 : m.length ≤ 1048576) (hs : SrcC w a l.length cap (lf l)) (hs2 : SrcC w a2 m.length cap2 (lf m)) (ht : Tab w) : Calls Tryd.prog 27 #[.int .i64 f, .slice a l.length cap, .slice a2 m.length cap2] w (OwnLM w (mEncodeWord f l m)) := by
  have HC := Lib.hid (isCode_c f a l cap m.length w hn hs ht)
  by_cases h1 : CodeOk f l (m.length : Int)
  · have hf := h1.2.1.1
    have hk : m.length ≤ 10 := by have := h1.1; have := h1.2.2.2; omega
    rw [code_iff.2 h1] at HC
    by_cases h2 : ElsOk f m
    · have HA := Lib.hid (hasAll_c f a2 m cap2 w ht hf.1 hf.2 hn2 hs2.src true (by simp; exact h2))
      have HT := Lib.hid (tree_pts f a l cap w hs ht h1.2.1)
      have HP : Hid (∀ w1, Below w.heap.size w w1 → Calls Tryd.prog 52 #[.slice a2 m.length cap2] w1 (OwnG w1 (cutL m.length (lf m)))) := Lib.hid fun w1 hb => poly_c a2 m.length cap2 (lf m) w1 hn2 (hs2.src.keep hb)
      have HV : Hid (∀ (b g1 : Nat) (w1 w2 : World), TreeW f w1 l.length (some ⟨b, 0, none⟩) (lf l) l.length → Below w.heap.size w w1 → Below w1.heap.size w1 w2 → Own w2 g1 (cutL m.length (lf m)).length (lf (cutL m.length (lf m))) → Calls Tryd.prog 39 #[.pointer (some ⟨b, 0, none⟩), .slice (some ⟨g1, 0, none⟩) (cutL m.length (lf m)).length (cutL m.length (lf m)).length] w2 (OwnLM w (mEncodeWord f l m))) := Lib.hid fun b g1 w1 w2 hT hb hb2 ho => by
        have hb3 := below_up hb hb2 hb.size
        have hle := cutL_le m.length (lf m)
        refine (values_c f hf.1 hf.2 l.length _ (lf l) l.length _ (cutL m.length (lf m)) _ w2 (hT.keep hb2) h1.2.1.2.1.2 (ht.below hb3) (msg_pol hf.1 hf.2 rfl h2) (by omega) ho.src).mono fun e w' h4 => ?_
        have h5 := (h4.up hb3 hb3.size).m
        rw [vals_enc rfl] at h5
        unfold mEncodeWord
        rw [if_pos ⟨h1, h2⟩]
        exact h5
      clear hs hs2 ht h1 h2
      generalize mEncodeWord f l m = R at *
      generalize cutL m.length (lf m) = V at *
      go_enter Tryd.func27, Tryd.ntmps27
      go_wp2_with fail
      refine HC.out.mono ?_
      rintro e w' ⟨rfl, rfl⟩
      go_wp2_with fail
      refine HA.out.mono ?_
      rintro e w' ⟨rfl, rfl⟩
      go_wp2_with fail
      refine HT.out.mono ?_
      rintro e w1 ⟨b, g, pl, pr, rfl, hg, hN, hO, hT, hb⟩
      have HP2 := Lib.hid (HP.out w1 hb)
      clear hN hO
      go_wp2_with fail
      refine HP2.out.mono ?_
      rintro e w2 ⟨g1, rfl, hg1, o1, b1⟩
      have HV2 := Lib.hid (HV.out b g1 w1 w2 hT hb b1 o1)
      clear hT hb b1 o1
      go_wp2_with fail
      refine HV2.out.mono ?_
      intro e w3 h3
      have HR := Lib.hid h3
      obtain ⟨a3, cap3, rfl, _⟩ := h3
      go_wp2
      go_ret
      exact HR.out
    · have HA := Lib.hid (hasAll_c f a2 m cap2 w ht hf.1 hf.2 hn2 hs2.src false (by simp; exact h2))
      have HR : Hid (OwnLM w (mEncodeWord f l m) (.returned (.slice none 0 0)) w) := Lib.hid (nil_m (by unfold mEncodeWord; rw [if_neg fun h => h2 h.2]) (Below.refl _ _))
      clear hs hs2 ht h1 h2
      go_enter Tryd.func27, Tryd.ntmps27
      go_wp2_with fail
      refine HC.out.mono ?_
      rintro e w' ⟨rfl, rfl⟩
      go_wp2_with fail
      refine HA.out.mono ?_
      rintro e w' ⟨rfl, rfl⟩
      go_wp2
      go_ret
      exact HR.out
  · rw [code_not.2 h1] at HC
    have HR : Hid (OwnLM w (mEncodeWord f l m) (.returned (.slice none 0 0)) w) := Lib.hid (nil_m (by unfold mEncodeWord; rw [if_neg fun h => h1 h.1]) (Below.refl _ _))
    clear hs hs2 ht h1
    go_enter Tryd.func27, Tryd.ntmps27
    go_wp2_with fail
    refine HC.out.mono ?_
    rintro e w' ⟨rfl, rfl⟩
    go_wp2
    go_ret
    exact HR.out
theorem len_mEncodeWord (f : Int) (l m : List Int) (_n : l.length ≤ 1048576) (_n2 : m.length ≤ 1048576) : (mEncodeWord f l m).length ≤ 1048576 := by
  unfold mEncodeWord
  split
  · rw [encL_len]; exact _n
  · simp
theorem SameB.boolP {w w' : World} {b : Bool} {e : Ending} (h : SameB w b e w') : BoolP w b e w' := ⟨h.1, by rw [← h.2]; exact Below.refl _ _⟩
theorem iPointsOkB (f : Int) (a : Option Addr) (l : List Int) (cap : Nat) (w : World) (hn : l.length ≤ 1048576) (hs : SrcC w a l.length cap (lf l)) (ht : Tab w) : Calls Tryd.prog 12 #[.int .i64 f, .slice a l.length cap] w (BoolP w (mPointsOk f l)) := (iPointsOk f a l cap w hn hs ht).mono fun _ _ h => h.boolP
end Go.Proofs.YtangofjpnhhfeaaDoor
namespace Go.Proofs.YtangofjpnhhfeaaDoor
open Go.RowKit
theorem drewN_below (w : World) : ∀ q, Below w.heap.size w (w.drewN q)
  | 0 => Below.refl _ _
  | q + 1 => (drewN_below w q).drew
theorem sPointsOkU (f : Int) (a : Option Addr) (l : List Int) (cap : Nat) (w : World) (hn : l.length ≤ 1048576) (hs : SrcC w a l.length cap (lf l)) : Calls Tryd.prog 10 #[.int .i64 f, .slice a l.length cap] w (BoolP w (mPointsOk f l)) :=
  (sPointsOk f a l cap w hn hs).mono fun _ _ ⟨h, q, e⟩ => ⟨h, by rw [e]; exact drewN_below w q⟩
theorem iPointsOkU (f : Int) (a : Option Addr) (l : List Int) (cap : Nat) (w : World) (hn : l.length ≤ 1048576) (hs : SrcC w a l.length cap (lf l)) (ht : Tab w) : Calls Tryd.prog 12 #[.int .i64 f, .slice a l.length cap] w (BoolP w (mPointsOk f l)) := iPointsOkB f a l cap w hn hs ht
theorem sEvalManyU (f : Int) (a : Option Addr) (l : List Int) (cap : Nat) (a2 : Option Addr) (xs : List Int) (cap2 : Nat) (w : World) (hn : l.length ≤ 1048576) (hn2 : xs.length ≤ 1048576) (hs : SrcC w a l.length cap (lf l)) (hs2 : SrcC w a2 xs.length cap2 (lf xs)) : Calls Tryd.prog 18 #[.int .i64 f, .slice a l.length cap, .slice a2 xs.length cap2] w (ListL w (mEvalMany f l xs)) := sEvalMany f a l cap a2 xs cap2 w hn hn2 hs.src hs2.src
theorem iEvalManyU (f : Int) (a : Option Addr) (l : List Int) (cap : Nat) (a2 : Option Addr) (xs : List Int) (cap2 : Nat) (w : World) (hn : l.length ≤ 1048576) (hn2 : xs.length ≤ 1048576) (hs : SrcC w a l.length cap (lf l)) (hs2 : SrcC w a2 xs.length cap2 (lf xs)) (ht : Tab w) : Calls Tryd.prog 19 #[.int .i64 f, .slice a l.length cap, .slice a2 xs.length cap2] w (OwnLM w (mEvalMany f l xs)) := iEvalMany f a l cap a2 xs cap2 w hn hn2 hs hs2 ht
theorem sInterpolateU (f : Int) (a : Option Addr) (xs : List Int) (cap : Nat) (a2 : Option Addr) (ys : List Int) (cap2 : Nat) (w : World) (hn : xs.length ≤ 1048576) (hn2 : ys.length ≤ 1048576) (hs : SrcC w a xs.length cap (lf xs)) (hs2 : SrcC w a2 ys.length cap2 (lf ys)) : Calls Tryd.prog 20 #[.int .i64 f, .slice a xs.length cap, .slice a2 ys.length cap2] w (ListLB w (mInterpolate0 f xs ys) (mInterpolate1 f xs ys)) := sInterpolate f a xs cap a2 ys cap2 w hn hn2 hs hs2.src
theorem iInterpolateU (f : Int) (a : Option Addr) (xs : List Int) (cap : Nat) (a2 : Option Addr) (ys : List Int) (cap2 : Nat) (w : World) (hn : xs.length ≤ 1048576) (hn2 : ys.length ≤ 1048576) (hs : SrcC w a xs.length cap (lf xs)) (hs2 : SrcC w a2 ys.length cap2 (lf ys)) (ht : Tab w) : Calls Tryd.prog 21 #[.int .i64 f, .slice a xs.length cap, .slice a2 ys.length cap2] w (OwnLB w (mInterpolate0 f xs ys) (mInterpolate1 f xs ys)) := iInterpolate f a xs cap a2 ys cap2 w hn hn2 hs hs2 ht
theorem sExtendU (f : Int) (a : Option Addr) (xs : List Int) (cap : Nat) (a2 : Option Addr) (ys : List Int) (cap2 : Nat) (x : Int) (w : World) (hn : xs.length ≤ 1048576) (hn2 : ys.length ≤ 1048576) (hs : SrcC w a xs.length cap (lf xs)) (hs2 : SrcC w a2 ys.length cap2 (lf ys)) : Calls Tryd.prog 22 #[.int .i64 f, .slice a xs.length cap, .slice a2 ys.length cap2, .int .i64 x] w (IntP w (mExtend f xs ys x)) := sExtend f a xs cap a2 ys cap2 x w hn hn2 hs hs2.src
theorem iExtendU (f : Int) (a : Option Addr) (xs : List Int) (cap : Nat) (a2 : Option Addr) (ys : List Int) (cap2 : Nat) (x : Int) (w : World) (hn : xs.length ≤ 1048576) (hn2 : ys.length ≤ 1048576) (hs : SrcC w a xs.length cap (lf xs)) (hs2 : SrcC w a2 ys.length cap2 (lf ys)) (ht : Tab w) : Calls Tryd.prog 23 #[.int .i64 f, .slice a xs.length cap, .slice a2 ys.length cap2, .int .i64 x] w (IntP w (mExtend f xs ys x)) := iExtend f a xs cap a2 ys cap2 x w hn hn2 hs hs2 ht
end Go.Proofs.YtangofjpnhhfeaaDoor
