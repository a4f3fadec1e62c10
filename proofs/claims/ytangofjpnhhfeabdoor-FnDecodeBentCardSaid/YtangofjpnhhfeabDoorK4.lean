/-
  Texts of the proofs of this seat, joined (part 4).
-/
import Derived.Deep.RegionHeld3
import Derived.StillTailTactics
import Derived.Test.YtangofjpnhhfeabDoorK3
namespace Go.Proofs.YtangofjpnhhfeabDoor
open Go.RowKit
def D2P (w : World) (e : Ending) (w' : World) : Prop := ∃ (f : Int) (a : Option Addr) (l : List Int) (cap : Nat) (a2 : Option Addr) (m : List Int) (cap2 : Nat), e = .returned (.tuple #[.int .i64 f, .slice a l.length cap, .slice a2 m.length cap2]) ∧ l.length ≤ 100 ∧ m.length ≤ 100 ∧ SrcC w' a l.length cap (lf l) ∧ SrcC w' a2 m.length cap2 (lf m) ∧ Below w.heap.size w w'
def PickL (g : Nat) (w : World) (e : Ending) (w' : World) : Prop := ∃ (a : Option Addr) (l : List Int) (cap : Nat), e = .returned (.slice a l.length cap) ∧ l.length ≤ 100 ∧ SrcC w' a l.length cap (lf l) ∧ w.grownBy w' (some g)
theorem pickl_of {g : Nat} {w w1 w' : World} {v : Value} {n : Nat} {F : Nat → Int} {B : Nat} (h : w'.ownsRow B 3 1 v n (xsF F n)) (hn : n ≤ 100) (hg : w.grownBy w1 (some g)) (hg2 : w1.grownBy w' (some g)) : PickL g w (.returned v) w' := by
  obtain ⟨a, cap, rfl, hc, hs⟩ := src_of_owns2 (owns_to_tab h)
  exact ⟨a, tab n F, cap, rfl, by rw [tab_len]; exact hn, ⟨hc, hs⟩, hg.trans hg2⟩
set_option maxRecDepth 100000 in
set_option maxHeartbeats 1600000 in
theorem pickInts_c (g : Nat) (a : Option Addr) (m : List Int) (cap : Nat) (a2 : Option Addr) (l : List Int) (cap2 : Nat) (w : World) (hc : Cur g w) (hm : m.length ≤ 10) (hl : l.length ≤ 10) (hs : Hid (XM w.heap.size g w a m cap)) (hs2 : Hid (XM w.heap.size g w a2 l cap2)) : Calls Tryd.prog 69 #[.pointer (some ⟨g, 0, none⟩), .slice a m.length cap, .slice a2 l.length cap2] w (PickL g w) := by
  obtain ⟨i0, hi, hz0, hz1, hz2⟩ := info_parts info3
  have HI := Lib.hid hi
  have HZ0 := Lib.hid hz0
  have HZ1 := Lib.hid hz1
  have HZ2 := Lib.hid hz2
  clear hi hz0 hz1 hz2
  go_enter Tryd.func69, Tryd.ntmps69
  go_wp2_with fail
  refine (below_c g 3 w hc (by omega) (by omega)).mono ?_
  rintro e w1 ⟨t, ⟨t0, t1⟩, rfl, g1, c1⟩
  have HM := Lib.hid (hs.out.grown g1).src
  have HL := Lib.hid (hs2.out.grown g1).src
  have hgl : g < w1.heap.size := c1.lt
  have HG1 := Lib.hid g1
  clear hs hs2 g1 c1 hc
  by_cases h0 : t = 0
  · subst h0
    go_wp2
    go_ret
    exact ⟨none, [], 0, rfl, by decide, ⟨Nat.le_refl _, .inl rfl⟩, HG1.out⟩
  · by_cases h1 : t = 1
    · subst h1
      go_wp2_with fail
      refine (copy_c a2 l.length cap2 (lf l) w1 (by omega) HL.out.2).mono ?_
      rintro e w3 ⟨v3, rfl, ho3, b3⟩
      have HE := Lib.hid (pickl_of (g := g) ho3 (by omega) HG1.out (grown_of_below g b3))
      clear ho3 b3
      go_wp2
      go_ret
      exact HE.out
    · have hz0 : (t == 0) = false := by rw [beq_eq_false_iff_ne]; exact h0
      have hz1 : (t == 1) = false := by rw [beq_eq_false_iff_ne]; exact h1
      go_wp2_with fail
      refine (copy_c a m.length cap (lf m) w1 (by omega) HM.out.2).mono ?_
      rintro e w3 ⟨v3, rfl, ho3, b3⟩
      have hge := own_ge ho3
      have hsz := b3.size
      go_wp2_with (at_builtin; refine wpList_append_own _ rfl _ _ 22 rfl w1.heap.size 3 i0 (.int .i64 0) 1 8 Tryd.underlying22 HI.out HZ0.out HZ1.out HZ2.out rfl (by decide) _ _ _ rfl (ho3.alloc _) ⟨w3.heap.size, 0, none⟩ 1 1 [.int .i64 (-1)] rfl rfl ?c1 ?c2 ?c3 ?c4 ?c5 ?_)
      case c1 => exact cell_one_new _ _ _
      case c2 => intro u hu; simp at hu; subst hu; rfl
      case c3 => unfold maxLen; omega
      case c4 => omega
      case c5 => simp; omega
      intro v4 w4 hown' hgrow _
      rw [zxs_more] at hown'
      have g34 : w1.grownBy w4 (some g) := grown_new ((grown_of_below g b3).trans (World.grownBy_alloc w3 _ (some g))) hgrow hge
      have HE := Lib.hid (pickl_of (g := g) hown' (by omega) HG1.out g34)
      clear ho3 b3 hgrow hown' g34 hge
      go_wp2
      go_ret
      exact HE.out
set_option maxRecDepth 100000 in
set_option maxHeartbeats 1600000 in
theorem drawEncodeWord_c (a : Option Addr) (len cap : Nat) (w : World) (hc : Code w a len) : Calls Tryd.prog 37 #[.slice a len cap] w (D2P w) := by
  go_enter Tryd.func37, Tryd.ntmps37
  go_wp2_with fail
  refine (new_c a len cap w hc).mono ?_
  rintro e w1 ⟨rfl, b1, c1⟩
  clear hc
  go_wp2_with fail
  refine (drawWord_c w.heap.size w1 c1).mono ?_
  rintro e w2 ⟨f, a3, l, cap3, y, k, a7, m, cap7, rfl, hl, hm, hx, hy, c2, g2⟩
  have b2 := below_of_grown b1 g2
  have HX := Lib.hid hx
  have HY := Lib.hid hy
  clear hx hy g2 b1 c1
  go_wp2_with fail
  refine (once_c w.heap.size 8 w2 c2 (by omega) (by omega)).mono ?_
  rintro e w3 ⟨b, rfl, g3, c3⟩
  have b3 := below_of_grown b2 g3
  have HX3 := Lib.hid ((HX.out.grown g3).mono g3.size)
  have HY3 := Lib.hid ((HY.out.grown g3).mono g3.size)
  clear HX HY b2 g3 c2
  cases b
  · have HE : Hid (D2P w (.returned (.tuple #[.int .i64 f, .slice a3 l.length cap3, .slice a7 m.length cap7])) w3) := Lib.hid ⟨f, a3, l, cap3, a7, m, cap7, rfl, by omega, by omega, HX3.out.src, HY3.out.src, b3⟩
    clear HX3 HY3
    go_wp2
    go_ret3
    exact HE.out
  · go_wp2_with fail
    refine (pickInts_c w.heap.size a7 m cap7 a3 l cap3 w3 c3 hm hl HY3 HX3).mono ?_
    rintro e w4 ⟨a5, q, cap5, rfl, hq, hsq, g4⟩
    have HE : Hid (D2P w (.returned (.tuple #[.int .i64 f, .slice a3 l.length cap3, .slice a5 q.length cap5])) w4) := Lib.hid ⟨f, a3, l, cap3, a5, q, cap5, rfl, by omega, hq, (HX3.out.grown g4).src, hsq, below_of_grown b3 g4⟩
    clear HX3 HY3 hsq g4
    go_wp2
    go_ret3
    exact HE.out
end Go.Proofs.YtangofjpnhhfeabDoor
namespace Go.Proofs.YtangofjpnhhfeabDoor
open Go.RowKit
def ListC (w : World) (l : List Int) (e : Ending) (w' : World) : Prop := ∃ a cap, e = .returned (.slice a l.length cap) ∧ SrcC w' a l.length cap (lf l) ∧ Below w.heap.size w w'
set_option maxHeartbeats 1600000 in
theorem cpO_some (b off n cap : Nat) (F : Nat → Int) (w : World) (hn : n ≤ 1048576) (hlt : b < w.heap.size) (hc : ∀ j, j < n → w.cell? ⟨b, off + j, none⟩ = some (.int .i64 (F j))) :
    Calls Tryd.prog 24 #[.slice (some ⟨b, off, none⟩) n cap] w (fun e w' => ∃ v, e = .returned v ∧ w'.ownsRow w.heap.size 3 1 v n (xsF F n) ∧ Below w.heap.size w w') := by
  have HC := Lib.hid hc
  clear hc
  obtain ⟨i0, hi, hz0, hz1, hz2⟩ := info_parts info3
  have HI := Lib.hid hi
  have HZ0 := Lib.hid hz0
  have HZ1 := Lib.hid hz1
  have HZ2 := Lib.hid hz2
  clear hi hz0 hz1 hz2
  go_enter Tryd.func24, Tryd.ntmps24
  go_wp2_with fail
  go_loopw [3, 4] (fun v i wr => ∃ k : Nat, i = .int .i64 k ∧ k ≤ n ∧ wr.ownsRow w.heap.size 3 1 v k (xsF F k) ∧ Below w.heap.size w wr) (fun _ i _ => n - (intOf i).toNat)
  case atStart => exact ⟨0, rfl, Nat.zero_le _, own_empty w F, (Below.refl _ _).alloc (Nat.le_refl _) _⟩
  case round =>
    obtain ⟨k, rfl, hk, hown, hnx⟩ := hrel
    by_cases h1 : k < n
    · have hc2 : wr.cell? ⟨b, off + k, none⟩ = some (.int .i64 (F k)) := (hnx.cell (p := ⟨b, off + k, none⟩) hlt).trans (HC.out k h1)
      have hs := hnx.size
      go_wp2_with (at_builtin; refine wpList_append_own _ rfl _ _ 22 rfl w.heap.size 3 i0 (.int .i64 0) 1 8 Tryd.underlying22 HI.out HZ0.out HZ1.out HZ2.out rfl (by decide) _ _ _ rfl (hown.alloc _) ⟨wr.heap.size, 0, none⟩ 1 1 [.int .i64 (F k)] rfl rfl ?c1 ?c2 ?c3 ?c4 ?c5 ?_)
      case c1 => exact cell_one_new _ _ _
      case c2 => intro u hu; simp at hu; subst hu; rfl
      case c3 => unfold maxLen; omega
      case c4 => omega
      case c5 => simp; omega
      intro v' w1 hown' hgrow _
      have hbel : Below w.heap.size w w1 := (hnx.alloc hs _).grown hgrow (by simp; omega) (own_ge hown)
      rw [xsF_succ] at hown'
      clear hgrow hown hc2
      go_wp2
      go_roundw
      case rel => exact ⟨k + 1, by go_num, by omega, hown', hbel⟩
      case measure => simp [intOf]; omega
    · have hd : decide (k < n) = false := by simpa using h1
      obtain rfl : k = n := by omega
      have HO := Lib.hid hown
      clear hown
      go_wp2
      go_ret
      exact ⟨_, rfl, HO.out, hnx⟩
theorem cpC_some (b off n cap : Nat) (F : Nat → Int) (w : World) (hn : n ≤ 1048576) (hlt : b < w.heap.size) (hc : ∀ j, j < n → w.cell? ⟨b, off + j, none⟩ = some (.int .i64 (F j))) :
    Calls Tryd.prog 24 #[.slice (some ⟨b, off, none⟩) n cap] w (fun e w' => ∃ a cap, e = .returned (.slice a n cap) ∧ SrcC w' a n cap F ∧ Below w.heap.size w w') :=
  (cpO_some b off n cap F w hn hlt hc).mono fun e w' h => by
    obtain ⟨v, rfl, ho, hb⟩ := h
    obtain ⟨a', cap', rfl, hcap, hsrc⟩ := src_of_owns2 ho
    exact ⟨a', cap', rfl, ⟨hcap, hsrc⟩, hb⟩
theorem cpC_none (a : Option Addr) (cap : Nat) (F : Nat → Int) (w : World) : Calls Tryd.prog 24 #[.slice a 0 cap] w (fun e w' => ∃ a cap, e = .returned (.slice a 0 cap) ∧ SrcC w' a 0 cap F ∧ Below w.heap.size w w') := by
  go_enter Tryd.func24, Tryd.ntmps24
  go_wp2
  refine wp_loop_rounds 1 ?_
  rw [rounds_succ]
  go_wp2
  go_ret
  exact ⟨_, _, rfl, ⟨Nat.zero_le _, .inl rfl⟩, (Below.refl _ _).alloc (Nat.le_refl _) _⟩
theorem cp_lc (a : Option Addr) (l : List Int) (cap : Nat) (w : World) (hn : l.length ≤ 1048576) (hs : Src w a l.length (lf l)) : Calls Tryd.prog 24 #[.slice a l.length cap] w (ListC w l) := by
  rcases hs with hz | ⟨b, off, rfl, hlt, hc⟩
  · have := cpC_none a cap (lf l) w
    rw [← hz] at this
    exact this
  · exact cpC_some b off l.length cap (lf l) w hn hlt hc
end Go.Proofs.YtangofjpnhhfeabDoor
namespace Go.Proofs.YtangofjpnhhfeabDoor
theorem cntN_stop {P : Nat → Bool} {i : Nat} (h : ∀ j, i ≤ j → P j = false) : ∀ d, cntN P (i + d) = cntN P i
  | 0 => rfl
  | d + 1 => by
    show cntN P (i + d) + (if P (i + d) then 1 else 0) = _
    rw [cntN_stop h d, h (i + d) (by omega)]
    simp
theorem selL_stop {P : Nat → Bool} {i : Nat} (X : Nat → Int) (h : ∀ j, i ≤ j → P j = false) : ∀ d, selL P X (i + d) = selL P X i
  | 0 => rfl
  | d + 1 => by
    show (if P (i + d) then selL P X (i + d) ++ [X (i + d)] else selL P X (i + d)) = _
    rw [h (i + d) (by omega)]
    simpa using selL_stop X h d
def idS : Nat → Int := fun i => (i : Int)
theorem bent_num {f : Int} {xs m : List Int} (h : EncOk f xs m) {Q : Nat → Bool} {F : Nat → Int} (hF : ∀ j, j < xs.length → 0 ≤ F j ∧ F j < P f) (hne : ∀ j, j < xs.length → (lf (encL f xs m) j != F j) = Q j) (hc : cntN Q xs.length ≤ (xs.length - m.length) / 2) :
    mDecodeWord0 f xs (tab xs.length F) (m.length : Int) = m ∧ mDecodeWord1 f xs (tab xs.length F) (m.length : Int) = (cntN Q xs.length : Nat) ∧ mDecodeWord2 f xs (tab xs.length F) (m.length : Int) = true ∧ mBlame f xs (tab xs.length F) (m.length : Int) = selL Q idS xs.length ∧ difN (encL f xs m) (tab xs.length F) = cntN Q xs.length := by
  have hb := bent_back h (y := tab xs.length F) (tab_len _ _) (fun j hj => by
    rw [tab_len] at hj
    rw [lf_tab, if_pos hj]
    exact hF j hj) Q (fun i hi => by rw [lf_tab, if_pos hi]; exact hne i hi) hc
  exact ⟨hb.2.1, hb.2.2.1, hb.2.2.2.1, hb.2.2.2.2.1, hb.2.2.2.2.2⟩
end Go.Proofs.YtangofjpnhhfeabDoor
namespace Go.Proofs.YtangofjpnhhfeabDoor
open Go.RowKit
theorem cp_y (a : Option Addr) (F : Nat → Int) (n cap : Nat) (w : World) (hn : n ≤ 1048576) (hs : Src w a n F) : Calls Tryd.prog 24 #[.slice a n cap] w (ListC w (tab n F)) := by
  have h := cp_lc a (tab n F) cap w (by rw [tab_len]; exact hn) (by
    rw [tab_len]
    rcases hs with h | ⟨b, off, h1, h2, h3⟩
    · exact .inl h
    · exact .inr ⟨b, off, h1, h2, fun j hj => by rw [h3 j hj, lf_tab, if_pos hj]⟩)
  rwa [tab_len] at h
end Go.Proofs.YtangofjpnhhfeabDoor
namespace Go.Proofs.YtangofjpnhhfeabDoor
open Go.RowKit
/-- A byte of the tape, read where the memory is as it was: one number, whatever was drawn since. -/
theorem byteAt_x (a : Option Addr) (len cap i : Nat) (w : World) (hl : len ≤ 1048576) (hi : i ≤ 1000) (hc : Code w a len) : ∃ x : Int, 0 ≤ x ∧ x < 256 ∧ ∀ W, Below w.heap.size w W → Calls Tryd.prog 27 #[.slice a len cap, .int .i64 i] W fun e w' => e = .returned (.int .i64 x) ∧ W = w' := by
  by_cases h : i < len
  · have hd : decide ((i : Int) < len) = true := decide_eq_true (by omega)
    rcases hc.2 with hz | ⟨b, off, rfl, hne, hlt, hb⟩
    · omega
    · obtain ⟨n, n0, n1, hc0⟩ := hb i h
      refine ⟨n, n0, n1, fun W hW => ?_⟩
      have hcell := (hW.cell (p := ⟨b, off + i, none⟩) hlt).trans hc0
      clear hc0 hb
      go_enter Tryd.func27, Tryd.ntmps27
      go_wp2
      go_ret
      exact ⟨rfl, rfl⟩
  · have hd : decide ((i : Int) < len) = false := decide_eq_false (by omega)
    refine ⟨((i : Int) * 13 + (len : Int) * 5) % 256, by omega, by omega, fun W hW => ?_⟩
    go_enter Tryd.func27, Tryd.ntmps27
    go_wp2
    go_ret
    exact ⟨rfl, rfl⟩
set_option maxRecDepth 100000 in
set_option maxHeartbeats 12800000 in
theorem bent_walk (a0 : Option Addr) (len0 cap0 : Nat) (w : World) (hl2 : len0 ≤ 1048576) (hcode : Code w a0 len0) (ht : Tab w) (hg : Ety w) : Calls Tryd.prog 8 #[.slice a0 len0 cap0] w fun e w' => e = .returned (.bool true) ∧ Below w.heap.size w w' := by
  have HT := Lib.hid ht
  have HG := Lib.hid hg
  have HCO := Lib.hid hcode
  obtain ⟨i0, hi, hz0, hz1, hz2⟩ := info_parts info3
  have HI := Lib.hid hi
  have HZ0 := Lib.hid hz0
  have HZ1 := Lib.hid hz1
  have HZ2 := Lib.hid hz2
  clear hi hz0 hz1 hz2 ht hg hcode
  go_enter Tryd.func8, Tryd.ntmps8
  go_wp2_with fail
  refine (big_no a0 len0 cap0 w hl2).mono ?_
  rintro e w' ⟨rfl, rfl⟩
  go_wp2_with fail
  refine (drawEncodeWord_c a0 len0 cap0 w HCO.out).mono ?_
  rintro e w1 ⟨f, a, l, cap, a2, m, cap2, rfl, n1, n2, s1, s2, b1⟩
  have HX1 := Lib.hid s1
  have HM1 := Lib.hid s2
  have HB1 := Lib.hid b1
  clear s1 s2 b1
  by_cases k1 : EncOk f l m
  · obtain ⟨hf, x1, x10, hk1, hk10⟩ := code_ok k1.1
    have hp := P_bd hf.1 hf.2
    have hkn : m.length ≤ l.length := by have := k1.1.2.2.2; omega
    have RE := Lib.hid (enc_on f a l cap a2 m cap2 w1 (by omega) (by omega) HX1.out HM1.out k1)
    go_wp2_with fail
    refine RE.out.mono ?_
    intro e w2 h2
    obtain ⟨v2, rfl, ho2, b2⟩ := h2
    rw [encL_len] at ho2
    obtain ⟨gw, cw, rfl, hgw, hw2⟩ := OwnV.of_owns ho2 (by omega)
    have HX2 := Lib.hid (HX1.out.keep b2)
    have HM2 := Lib.hid (HM1.out.keep b2)
    have HWD := Lib.hid hw2.src
    have HB2 := Lib.hid (below_step HB1.out b2)
    have hnz : ((l.length : Int) == 0) = false := by rw [beq_eq_false_iff_ne]; omega
    have hnil : ¬ l = [] := fun e => by rw [e] at x1; simp at x1
    clear ho2 hw2 b2 RE HX1 HM1
    have HCX := Lib.hid (cp_lc a l cap w2 (by omega) HX2.out.2)
    go_wp2_with fail
    refine HCX.out.mono ?_
    rintro e w3 ⟨p3, d3, rfl, s3, b3⟩
    have HCM := Lib.hid (cp_lc a2 m cap2 w3 (by omega) (HM2.out.keep b3).2)
    have HS3 := Lib.hid s3
    have HB3 := Lib.hid b3
    clear s3 b3 HCX
    go_wp2_with fail
    refine HCM.out.mono ?_
    rintro e w4 ⟨p4, d4, rfl, s4, b4⟩
    have b24 := below_up HB3.out b4 HB3.out.size
    have HEN := iEncodeWord f p3 l d3 p4 m d4 w4 (by omega) (by omega) (HS3.out.keep b4) s4 (HT.out.below (below_step HB2.out b24))
    rw [show mEncodeWord f l m = encL f l m by unfold mEncodeWord; rw [if_pos k1]] at HEN
    have HENC := Lib.hid HEN
    have HB24 := Lib.hid b24
    clear s4 b4 b24 HEN HCM HS3 HB3
    go_wp2_with fail
    refine HENC.out.mono ?_
    rintro e w5 ⟨p5, d5, rfl, o5, b5⟩
    rcases o5 with ⟨_, _, hz5⟩ | ⟨gb, rfl, hgb, hv5⟩
    · rw [encL_len] at hz5
      omega
    rw [encL_len] at hv5
    rw [encL_len]
    have b25 := below_up HB24.out b5 HB24.out.size
    have hgb2 : w2.heap.size ≤ gb := Nat.le_trans HB24.out.size hgb
    have HSM0 : Hid (Calls Tryd.prog 25 #[.slice (some ⟨gb, 0, none⟩) l.length d5, .slice (some ⟨gw, 0, none⟩) l.length cw] w5 (TrueP w5)) := Lib.hid (same_c _ _ l.length d5 cw (lf (encL f l m)) w5 (by omega) hv5.src (HWD.out.keep b25))
    have HV5 := Lib.hid hv5
    have HB25 := Lib.hid b25
    clear hv5 b5 b25 HENC HB24
    go_wp2_with fail
    refine HSM0.out.mono ?_
    rintro e w6 ⟨rfl, b6⟩
    have b26 := below_up HB25.out b6 HB25.out.size
    have HV6 := HV5.out.keep b6
    have hlw6 := HV6.lt
    have OE := Lib.hid (own_lower (own_empty w6 (lf (selL (fun _ => false) idS 0))) b26.size)
    have HW6 := Lib.hid (HV6.keep ((Below.refl w6.heap.size w6).alloc (Nat.le_refl _) (.cells #[] 3)))
    have hb7 := b26.alloc b26.size (.cells #[] 3)
    have HEL := encL_els hf.1 hf.2 l m
    have HFB0 : Hid (∀ j, j < l.length → 0 ≤ lf (encL f l m) j ∧ lf (encL f l m) j < P f) := Lib.hid fun j hj => HEL j (by rw [encL_len]; exact hj)
    have ADD : Hid (∀ x y W, Calls Tryd.prog 34 #[.int .i64 f, .int .i64 x, .int .i64 y] W fun e w' => e = .returned (.int .i64 (RS (x + y) (P f))) ∧ W = w') := Lib.hid fun x y W => by have := sAdd f x y W; rwa [mAdd, if_pos hf] at this
    have HMO := Lib.hid (sModulus f)
    have HBN : Hid (∀ y z : Int, 0 ≤ y → y < P f → 1 ≤ z → z < P f → y ≠ RS (y + z) (P f) ∧ 0 ≤ RS (y + z) (P f) ∧ RS (y + z) (P f) < P f) := Lib.hid fun y z h1 h2 h3 h4 => bend_ne hf.1 hf.2 h1 h2 h3 h4
    obtain ⟨T, hTT⟩ : ∃ T : Nat, T = (l.length - m.length) / 2 := ⟨_, rfl⟩
    have eT : ((l.length : Int) - m.length).tdiv 2 = (T : Int) := by
      rw [Int.tdiv_eq_ediv_of_nonneg (by omega)]
      omega
    have l10 : (l.length : Int) ≤ 10 := by omega
    have m10 : (m.length : Int) ≤ 10 := by omega
    clear HV6 b6 b26 HSM0 HV5 HB25 HEL
    go_wp2_with fail
    go_loopw [8, 9] (fun v iv wr => ∃ (i : Nat) (PP : Nat → Bool) (FF : Nat → Int) (av : Option Addr) (cv : Nat), iv = .int .i64 i ∧ v = .slice av (cntN PP i) cv ∧ i ≤ l.length ∧ Hid (wr.ownsRow w2.heap.size 3 1 (.slice av (cntN PP i) cv) (cntN PP i) (xsF (lf (selL PP idS i)) (cntN PP i))) ∧ Hid (OwnV wr gb l.length d5 FF) ∧ (Value.slice av (cntN PP i) cv).ownBlock ≠ some gb ∧ Hid (∀ j, j < l.length → (lf (encL f l m) j != FF j) = PP j) ∧ Hid (∀ j, j < l.length → 0 ≤ FF j ∧ FF j < P f) ∧ Hid (∀ j, i ≤ j → PP j = false) ∧ cntN PP i ≤ T ∧ gb < wr.heap.size ∧ Below w2.heap.size w2 wr) (fun _ iv _ => l.length - (intOf iv).toNat)
    case atStart => exact ⟨0, fun _ => false, lf (encL f l m), some ⟨w6.heap.size, 0, none⟩, 0, rfl, rfl, Nat.zero_le _, OE, HW6, (fun e => by injection e with e; have e : w6.heap.size = gb := e; omega), Lib.hid (fun _ _ => by simp), HFB0, Lib.hid fun _ _ => rfl, Nat.zero_le _, (by simp; omega), hb7⟩
    case round =>
      clear OE HW6 hb7 HFB0 hlw6
      obtain ⟨i, PP, FF, av, cv, rfl, rfl, hin, HV, HW, hne, HPE, HFB, HPS, hcnt, hlw, hbel⟩ := hrel
      have hsz := hbel.size
      have hci := cntN_le PP i
      by_cases h1 : i < l.length
      · have hd1 : decide ((i : Int) < l.length) = true := decide_eq_true (by omega)
        by_cases h2 : cntN PP i < T
        · have hd2 : decide (((cntN PP i : Nat) : Int) < (T : Int)) = true := decide_eq_true (by omega)
          have hd2n : decide (cntN PP i < T) = true := decide_eq_true h2
          have HAT := Lib.hid (byteAt_c a0 len0 cap0 i wr hl2 (by omega) (HCO.out.keep (below_step HB2.out hbel)))
          go_wp2_with fail
          refine HAT.out.mono ?_
          rintro e w' ⟨x, rfl, x0, x1', rfl⟩
          clear HAT
          obtain ⟨y, hy⟩ : ∃ y, x.tmod 2 = y := ⟨_, rfl⟩
          by_cases hy0 : y = 1
          · have hyb : (y == 1) = true := by rw [beq_iff_eq]; exact hy0
            have c2 := HW.out.cell h1
            have f2 := HW.out.frozen i
            have c2d : wr.drew.cell? ⟨gb, i, none⟩ = some (.int .i64 (FF i)) := c2
            have f2d : wr.drew.frozen? ⟨gb, i, none⟩ = false := f2
            have hi0 : (0 : Int) ≤ (i : Int) := by omega
            have hi2 : (i : Int) < l.length := by omega
            have hbd : Below w2.heap.size w2 wr.drew := hbel.drew
            obtain ⟨z, z0, z1, hz⟩ := byteAt_x a0 len0 cap0 (i + 1) wr hl2 (by omega) (HCO.out.keep (below_step HB2.out hbel))
            rw [show ((i + 1 : Nat) : Int) = (i : Int) + 1 from rfl] at hz
            have HZZ := Lib.hid (hz wr.drew (Below.refl wr.heap.size wr).drew)
            have zb0 : 0 ≤ z.tmod (P f - 1) := Int.tmod_nonneg _ z0
            have zb1 : z.tmod (P f - 1) < P f - 1 := Int.tmod_lt_of_pos _ (by omega)
            have q1 : IntKind.i64.wrap ((i : Int) + 1) = (i : Int) + 1 := IntWalk.i64_in _ (by omega)
            have q2 : IntKind.i64.wrap (P f - 1) = P f - 1 := IntWalk.i64_in _ (by omega)
            have q3 : ¬ P f - 1 = 0 := by omega
            have q3b : (P f - 1 == 0) = false := by rw [beq_eq_false_iff_ne]; exact q3
            have q4 : IntKind.i64.wrap (1 + z.tmod (P f - 1)) = 1 + z.tmod (P f - 1) := IntWalk.i64_in _ (by omega)
            have q5 : IntKind.i64.wrap (z.tmod (P f - 1)) = z.tmod (P f - 1) := IntWalk.i64_in _ (by omega)
            have hFi := HFB.out i h1
            have hbn := Lib.hid (HBN.out (FF i) (1 + z.tmod (P f - 1)) hFi.1 hFi.2 (by omega) (by omega))
            have HVd : Hid (wr.drew.ownsRow w2.heap.size 3 1 (.slice av (cntN PP i) cv) (cntN PP i) (xsF (lf (selL PP idS i)) (cntN PP i))) := Lib.hid HV.out
            have HWd : Hid (OwnV wr.drew gb l.length d5 FF) := Lib.hid (v_of_block HW.out rfl)
            have hlwd : gb < wr.drew.heap.size := hlw
            clear hy0 hz HV HW c2 f2
            go_wp2_with fail
            refine wp_region_still_tail 18 (by kernel_rfl) (by kernel_rfl) ?_
            simp only [List.take_succ_cons, List.take_zero, List.drop_succ_cons, List.drop_zero]
            still_step
            still_step
            still_step
            still_step
            still_step
            still_step
            still_step
            still_step
            still_step
            still_step
            still_call (HZZ.out.mono fun _ _ h => ⟨h.1, h.2.symm⟩)
            still_step
            still_call ((HMO.out wr.drew).mono fun _ _ h => ⟨h.1, h.2.symm⟩)
            still_step
            still_step
            still_step
            still_call ((ADD.out (FF i) (1 + z.tmod (P f - 1)) wr.drew).mono fun _ _ h => ⟨h.1, h.2.symm⟩)
            still_step
            refine wpStill_nil ?_
            change wpList _ _ _ _ _ wr.drew
            generalize hN : RS (FF i + (1 + z.tmod (P f - 1))) (P f) = N at *
            generalize wr.drew = W1 at *
            clear HZZ q1 q2 q3 q3b q4 q5
            have HW6 := Lib.hid (HWd.out.set (s := i) (x := N))
            have HV6 := Lib.hid (ownsRow_setCell_other (a := ⟨gb, i, none⟩) HVd.out hne (.int .i64 N))
            have hbel6 := hbd.setCell (p := ⟨gb, i, none⟩) hgb2 (.int .i64 N)
            have hlw6 : gb < (W1.setCell ⟨gb, i, none⟩ (.int .i64 N)).heap.size := HW6.out.lt
            clear HWd HVd hbd
            have hge : ∀ k, (Value.slice av (cntN PP i) cv).ownBlock = some k → w2.heap.size ≤ k := own_ge HV6.out
            have hsz6 := hbel6.size
            go_wp2_with (at_builtin; refine wpList_append_own_at _ rfl _ _ 22 rfl w2.heap.size 3 i0 (.int .i64 0) 1 8 Tryd.underlying22 HI.out HZ0.out HZ1.out HZ2.out rfl (by decide) _ _ _ rfl (HV6.out.alloc _) ⟨W1.heap.size, 0, none⟩ 1 1 [.int .i64 (i : Int)] rfl rfl ?c1 ?c2 ?c3 ?c4 ?c5 ?_)
            case c1 => have h9 := cell_one_new (W1.setCell ⟨gb, i, none⟩ (.int .i64 N)) (.int .i64 (i : Int)) 3; rw [show (W1.setCell ⟨gb, i, none⟩ (.int .i64 N)).heap.size = W1.heap.size by simp] at h9; exact h9
            case c2 => intro u hu; simp at hu; subst hu; rfl
            case c3 => unfold maxLen; omega
            case c4 => omega
            case c5 => simp; omega
            intro v' w8 hown' hgrow _ hat
            have hss : (W1.setCell ⟨gb, i, none⟩ (.int .i64 N)).heap.size = W1.heap.size := by simp
            have hbel8 : Below w2.heap.size w2 w8 := (hbel6.alloc hsz6 _).grown hgrow (by simp; omega) hge
            have hal : ((W1.setCell ⟨gb, i, none⟩ (.int .i64 N)).alloc (.cells #[.int .i64 (i : Int)] 3)).heap[gb]? = (W1.setCell ⟨gb, i, none⟩ (.int .i64 N)).heap[gb]? := heap_alloc_old _ _ hlw6
            have hblk8 : w8.heap[gb]? = (W1.setCell ⟨gb, i, none⟩ (.int .i64 N)).heap[gb]? := (hgrow.block gb (by simp; omega) (fun e => hne e.symm)).trans hal
            have HW8 := Lib.hid (v_of_block HW6.out hblk8)
            have hlw8 : gb < w8.heap.size := HW8.out.lt
            have hne8 : v'.ownBlock ≠ some gb := fun e => by
              rcases hat with h | h
              · exact hne (h.symm.trans e)
              · rw [e] at h; injection h with h; first | omega | (simp at h; omega)
            obtain ⟨av2, cv2, rfl, _⟩ : ∃ a c, v' = .slice a (cntN PP i + 1) c ∧ cntN PP i + 1 ≤ c := by
              rcases hown'.2 with ⟨_, h0⟩ | ⟨g9, c9, cur9, e9, _, _, h9, _⟩
              · omega
              · exact ⟨_, c9, e9, h9⟩
            have HPN : Hid ((fun j => if j = i then true else PP j) i = true) := Lib.hid (by simp)
            have ec : cntN (fun j => if j = i then true else PP j) i = cntN PP i := cntN_congr fun j hj => by simp [show ¬ j = i by omega]
            have es : selL (fun j => if j = i then true else PP j) idS i = selL PP idS i := selL_congr _ fun j hj => by simp [show ¬ j = i by omega]
            have ey := sel_yes (p := (fun j => if j = i then true else PP j)) idS HPN.out
            rw [ec, es] at ey
            have HV8 : Hid (w8.ownsRow w2.heap.size 3 1 (.slice av2 (cntN PP i + 1) cv2) (cntN PP i + 1) (xsF (lf (selL (fun j => if j = i then true else PP j) idS (i + 1))) (cntN (fun j => if j = i then true else PP j) (i + 1)))) := Lib.hid (by
              rw [← ey.1]
              exact hown')
            have HEC := Lib.hid ey.2
            clear hgrow hown' hat ey ec es HV6 HW6 hbel6 hblk8 hal hne
            have HPE8 : Hid (∀ j, j < l.length → (lf (encL f l m) j != upd FF i N j) = (fun j => if j = i then true else PP j) j) := Lib.hid fun j hj => by
              have hpi := HPS.out i (Nat.le_refl _)
              by_cases e : j = i
              · subst e
                have h9 := HPE.out j hj
                rw [hpi] at h9
                have h9e : lf (encL f l m) j = FF j := by simpa using h9
                unfold upd
                rw [if_pos rfl, h9e]
                simp only [if_true]
                rw [bne_iff_ne]
                exact hbn.out.1
              · unfold upd
                rw [if_neg e]
                simp only [e, if_false]
                exact HPE.out j hj
            have HFB8 : Hid (∀ j, j < l.length → 0 ≤ upd FF i N j ∧ upd FF i N j < P f) := Lib.hid fun j hj => by
              unfold upd
              by_cases e : j = i
              · rw [if_pos e]; exact hbn.out.2
              · rw [if_neg e]; exact HFB.out j hj
            have HPS8 : Hid (∀ j, i + 1 ≤ j → (fun j => if j = i then true else PP j) j = false) := Lib.hid fun j hj => by
              simp [show ¬ j = i by omega, HPS.out j (by omega)]
            have HNE8 : Hid ((Value.slice av2 (cntN (fun j => if j = i then true else PP j) (i + 1)) cv2).ownBlock ≠ some gb) := Lib.hid (fun e => hne8 (by
              cases av2 with
              | none => exact e
              | some q => exact e))
            have HVE : Hid (Value.slice av2 (cntN PP i + 1) cv2 = .slice av2 (cntN (fun j => if j = i then true else PP j) (i + 1)) cv2) := Lib.hid (by rw [HEC.out])
            have HCN : Hid (cntN (fun j => if j = i then true else PP j) (i + 1) ≤ T) := Lib.hid (by rw [← HEC.out]; omega)
            have HV9 : Hid (w8.ownsRow w2.heap.size 3 1 (.slice av2 (cntN (fun j => if j = i then true else PP j) (i + 1)) cv2) (cntN (fun j => if j = i then true else PP j) (i + 1)) (xsF (lf (selL (fun j => if j = i then true else PP j) idS (i + 1))) (cntN (fun j => if j = i then true else PP j) (i + 1)))) := Lib.hid (by
              have h9 := HV8.out
              rw [← HEC.out]
              rw [← HEC.out] at h9
              exact h9)
            clear HV8 HPE HPS HFB hne8 HPN HEC
            go_wp2
            go_roundw
            case rel => exact ⟨i + 1, _, _, av2, cv2, by go_num, HVE.out, by omega, HV9, HW8, HNE8.out, HPE8, HFB8, HPS8, HCN.out, hlw8, hbel8⟩
            case measure => simp [intOf]; omega
          · have hyb : (y == 1) = false := by rw [beq_eq_false_iff_ne]; exact hy0
            have en := sel_no (p := PP) idS (HPS.out i (Nat.le_refl _))
            have HV6 : Hid (wr.ownsRow w2.heap.size 3 1 (.slice av (cntN PP (i + 1)) cv) (cntN PP (i + 1)) (xsF (lf (selL PP idS (i + 1))) (cntN PP (i + 1)))) := Lib.hid (by rw [en.1, en.2]; exact HV.out)
            have HVE : Hid (Value.slice av (cntN PP i) cv = .slice av (cntN PP (i + 1)) cv) := Lib.hid (by rw [en.2])
            have HNE7 : Hid ((Value.slice av (cntN PP (i + 1)) cv).ownBlock ≠ some gb) := Lib.hid (by rw [en.2]; exact hne)
            have HCN : Hid (cntN PP (i + 1) ≤ T) := Lib.hid (by rw [en.2]; exact hcnt)
            have HPS7 : Hid (∀ j, i + 1 ≤ j → PP j = false) := Lib.hid fun j hj => HPS.out j (by omega)
            clear hy0 en HV hne
            go_wp2
            go_roundw
            case rel => exact ⟨i + 1, PP, FF, av, cv, by go_num, HVE.out, by omega, HV6, HW, HNE7.out, HPE, HFB, HPS7, HCN.out, hlw, hbel⟩
            case measure => simp [intOf]; omega
        · have hd2 : decide (((cntN PP i : Nat) : Int) < (T : Int)) = false := decide_eq_false (by omega)
          have hd2n : decide (cntN PP i < T) = false := decide_eq_false h2
          have hst := cntN_stop HPS.out (l.length - i)
          have hss := selL_stop idS HPS.out (l.length - i)
          rw [show i + (l.length - i) = l.length by omega] at hst hss
          have HNUM := Lib.hid (bent_num k1 (Q := PP) (F := FF) HFB.out HPE.out (by rw [hst]; omega))
          have hGL : (selL PP idS l.length).length = cntN PP i := by rw [selL_len, hst]
          have HGS : Hid (Src wr av (selL PP idS l.length).length (lf (selL PP idS l.length))) := Lib.hid (by
            rw [hGL, hss]
            obtain ⟨a9, c9, e9, _, s9⟩ := src_of_owns2 HV.out
            injection e9 with q1 q2 q3
            rw [← q1] at s9
            exact s9)
          have HDF : Hid (mDiffer (encL f l m) (tab l.length FF) = ((selL PP idS l.length).length : Int)) := Lib.hid (by
            unfold mDiffer
            rw [if_pos ⟨by rw [encL_len]; omega, by rw [tab_len]; omega⟩, HNUM.out.2.2.2.2, hst, hGL])
          have HN1 : Hid (mDecodeWord1 f l (tab l.length FF) (m.length : Int) = ((selL PP idS l.length).length : Int)) := Lib.hid (by rw [HNUM.out.2.1, hst, hGL])
          have HYS : Hid (Src wr (some ⟨gb, 0, none⟩) l.length FF) := Lib.hid HW.out.src
          have HX9 := Lib.hid (HX2.out.src.keep hbel)
          have HM9 := Lib.hid (HM2.out.src.keep hbel)
          have HE9 := Lib.hid (HWD.out.keep hbel)
          have HCPX := Lib.hid (cp_lc a l cap wr (by omega) HX9.out)
          have c9 := below_step HB2.out hbel
          have hGle : (selL PP idS l.length).length ≤ 10 := by rw [hGL]; have := cntN_le PP i; omega
          have hGeq : (((selL PP idS l.length).length : Int) == (selL PP idS l.length).length) = true := by simp
          have HGLh := Lib.hid hGL
          clear hst hss hGL hGle hGeq HV HW HPE HPS HFB hne hlw
          go_wp2_with fail
          rw [← HGLh.out]
          have hGle : (selL PP idS l.length).length ≤ 10 := by rw [HGLh.out]; have := cntN_le PP i; omega
          have hGeq : (((selL PP idS l.length).length : Int) == (selL PP idS l.length).length) = true := by simp
          clear hd2 hd2n
          refine HCPX.out.mono ?_
          rintro e w15 ⟨p8, d8, rfl, s5, b5⟩
          have HCPY := Lib.hid (cp_y (some ⟨gb, 0, none⟩) FF l.length d5 w15 (by omega) (HYS.out.keep b5))
          have HS5 := Lib.hid s5
          have HX15 := Lib.hid (HX9.out.keep b5)
          have HY15 := Lib.hid (HYS.out.keep b5)
          have HG15 := Lib.hid (HGS.out.keep b5)
          have HM15 := Lib.hid (HM9.out.keep b5)
          have HE15 := Lib.hid (HE9.out.keep b5)
          have c15 := below_step c9 b5
          clear s5 b5 HCPX HYS HGS HM9 HX9 HE9 c9
          go_wp2_with fail
          refine HCPY.out.mono ?_
          rintro e w16 ⟨p6, d6, rfl, s6, b6⟩
          have c16 := below_step c15 b6
          have HDG := iDecodeWord f p8 l d8 p6 (tab l.length FF) d6 (m.length : Int) w16 (by omega) (by rw [tab_len]; omega) (HS5.out.keep b6) s6 (HT.out.below c16) (HG.out.below c16)
          rw [HNUM.out.1, HN1.out, HNUM.out.2.2.1] at HDG
          have HDD := Lib.hid HDG
          have HX16 := Lib.hid (HX15.out.keep b6)
          have HY16 := Lib.hid (HY15.out.keep b6)
          have HG16 := Lib.hid (HG15.out.keep b6)
          have HM16 := Lib.hid (HM15.out.keep b6)
          have HE16 := Lib.hid (HE15.out.keep b6)
          clear s6 b6 HCPY HDG HS5 HX15 HY15 HG15 HM15 HE15 c15
          go_wp2_with fail
          refine HDD.out.mono ?_
          rintro e w17 ⟨p7, d7, rfl, o7, b7⟩
          have c17 := below_step c16 b7
          have HSM := Lib.hid (sameZ p7 a2 m d7 cap2 w17 (by omega) o7.src (HM16.out.keep b7))
          have HX17 := Lib.hid (HX16.out.keep b7)
          have HY17 := Lib.hid (HY16.out.keep b7)
          have HG17 := Lib.hid (HG16.out.keep b7)
          have HE17 := Lib.hid (HE16.out.keep b7)
          clear o7 b7 HDD HX16 HY16 HG16 HM16 HE16 c16
          go_wp2_with fail
          refine HSM.out.mono ?_
          rintro e w18 ⟨rfl, b8⟩
          have c18 := below_step c17 b8
          have HCX := Lib.hid (cp_lc a l cap w18 (by omega) (HX17.out.keep b8))
          have HY18 := Lib.hid (HY17.out.keep b8)
          have HG18 := Lib.hid (HG17.out.keep b8)
          have HE18 := Lib.hid (HE17.out.keep b8)
          clear b8 HSM HX17 HY17 HG17 HE17 c17
          go_wp2_with fail
          refine HCX.out.mono ?_
          rintro e w19 ⟨p9, d9, rfl, s9, b9⟩
          have c19 := below_step c18 b9
          have HCY := Lib.hid (cp_y (some ⟨gb, 0, none⟩) FF l.length d5 w19 (by omega) (HY18.out.keep b9))
          have HS9 := Lib.hid s9
          have HY19 := Lib.hid (HY18.out.keep b9)
          have HG19 := Lib.hid (HG18.out.keep b9)
          have HE19 := Lib.hid (HE18.out.keep b9)
          clear s9 b9 HCX HY18 HG18 HE18 c18
          go_wp2_with fail
          refine HCY.out.mono ?_
          rintro e w20 ⟨p10, d10, rfl, s10, b10⟩
          have c20 := below_step c19 b10
          have HBG := iBlame f p9 l d9 p10 (tab l.length FF) d10 (m.length : Int) w20 (by omega) (by rw [tab_len]; omega) (HS9.out.keep b10) s10 (HT.out.below c20) (HG.out.below c20)
          rw [HNUM.out.2.2.2.1] at HBG
          have HBB := Lib.hid HBG
          have HY20 := Lib.hid (HY19.out.keep b10)
          have HG20 := Lib.hid (HG19.out.keep b10)
          have HE20 := Lib.hid (HE19.out.keep b10)
          clear s10 b10 HCY HBG HS9 HY19 HG19 HE19 c19
          go_wp2_with fail
          refine HBB.out.mono ?_
          rintro e w21 ⟨p11, d11, rfl, o11, b11⟩
          have c21 := below_step c20 b11
          have HSG := Lib.hid (sameZ p11 av (selL PP idS l.length) d11 cv w21 (by omega) o11.src (HG20.out.keep b11))
          have HY21 := Lib.hid (HY20.out.keep b11)
          have HE21 := Lib.hid (HE20.out.keep b11)
          clear o11 b11 HBB HY20 HG20 HE20 c20
          go_wp2_with fail
          refine HSG.out.mono ?_
          rintro e w22 ⟨rfl, b12⟩
          have c22 := below_step c21 b12
          have HCE : Hid (Calls Tryd.prog 24 #[.slice (some ⟨gw, 0, none⟩) l.length cw] w22 (ListC w22 (encL f l m))) := Lib.hid (by
            have h9 := cp_lc (some ⟨gw, 0, none⟩) (encL f l m) cw w22 (by rw [encL_len]; omega) (by rw [encL_len]; exact HE21.out.keep b12)
            rwa [encL_len] at h9)
          have HY22 := Lib.hid (HY21.out.keep b12)
          clear b12 HSG HY21 HE21 c21
          go_wp2_with fail
          refine HCE.out.mono ?_
          rintro e w23 ⟨p13, d13, rfl, s13, b13⟩
          have c23 := below_step c22 b13
          have HCY2 := Lib.hid (cp_y (some ⟨gb, 0, none⟩) FF l.length d5 w23 (by omega) (HY22.out.keep b13))
          have HS13 := Lib.hid s13
          clear s13 b13 HCE HY22 c22
          go_wp2_with fail
          refine HCY2.out.mono ?_
          rintro e w24 ⟨p14, d14, rfl, s14, b14⟩
          have c24 := below_step c23 b14
          have HDI := iDiffer p13 (encL f l m) d13 p14 (tab l.length FF) d14 w24 (by rw [encL_len]; omega) (by rw [tab_len]; omega) (HS13.out.keep b14) s14
          rw [HDF.out] at HDI
          have HDD2 := Lib.hid HDI
          clear s14 b14 HCY2 HDI HS13 c23
          go_wp2_with fail
          refine HDD2.out.mono ?_
          rintro e w25 ⟨rfl, b15⟩
          have c25 := below_step c24 b15
          go_wp2
          go_ret
          exact ⟨rfl, c25⟩
      · have hd1 : decide ((i : Int) < l.length) = false := decide_eq_false (by omega)
        have hst := cntN_stop HPS.out (l.length - i)
        have hss := selL_stop idS HPS.out (l.length - i)
        rw [show i + (l.length - i) = l.length by omega] at hst hss
        have HNUM := Lib.hid (bent_num k1 (Q := PP) (F := FF) HFB.out HPE.out (by rw [hst]; omega))
        have hGL : (selL PP idS l.length).length = cntN PP i := by rw [selL_len, hst]
        have HGS : Hid (Src wr av (selL PP idS l.length).length (lf (selL PP idS l.length))) := Lib.hid (by
          rw [hGL, hss]
          obtain ⟨a9, c9, e9, _, s9⟩ := src_of_owns2 HV.out
          injection e9 with q1 q2 q3
          rw [← q1] at s9
          exact s9)
        have HDF : Hid (mDiffer (encL f l m) (tab l.length FF) = ((selL PP idS l.length).length : Int)) := Lib.hid (by
          unfold mDiffer
          rw [if_pos ⟨by rw [encL_len]; omega, by rw [tab_len]; omega⟩, HNUM.out.2.2.2.2, hst, hGL])
        have HN1 : Hid (mDecodeWord1 f l (tab l.length FF) (m.length : Int) = ((selL PP idS l.length).length : Int)) := Lib.hid (by rw [HNUM.out.2.1, hst, hGL])
        have HYS : Hid (Src wr (some ⟨gb, 0, none⟩) l.length FF) := Lib.hid HW.out.src
        have HX9 := Lib.hid (HX2.out.src.keep hbel)
        have HM9 := Lib.hid (HM2.out.src.keep hbel)
        have HE9 := Lib.hid (HWD.out.keep hbel)
        have HCPX := Lib.hid (cp_lc a l cap wr (by omega) HX9.out)
        have c9 := below_step HB2.out hbel
        have hGle : (selL PP idS l.length).length ≤ 10 := by rw [hGL]; have := cntN_le PP i; omega
        have hGeq : (((selL PP idS l.length).length : Int) == (selL PP idS l.length).length) = true := by simp
        rw [← hGL]
        clear hst hss hGL HV HW HPE HPS HFB hne hlw
        go_wp2_with fail
        refine HCPX.out.mono ?_
        rintro e w15 ⟨p8, d8, rfl, s5, b5⟩
        have HCPY := Lib.hid (cp_y (some ⟨gb, 0, none⟩) FF l.length d5 w15 (by omega) (HYS.out.keep b5))
        have HS5 := Lib.hid s5
        have HX15 := Lib.hid (HX9.out.keep b5)
        have HY15 := Lib.hid (HYS.out.keep b5)
        have HG15 := Lib.hid (HGS.out.keep b5)
        have HM15 := Lib.hid (HM9.out.keep b5)
        have HE15 := Lib.hid (HE9.out.keep b5)
        have c15 := below_step c9 b5
        clear s5 b5 HCPX HYS HGS HM9 HX9 HE9 c9
        go_wp2_with fail
        refine HCPY.out.mono ?_
        rintro e w16 ⟨p6, d6, rfl, s6, b6⟩
        have c16 := below_step c15 b6
        have HDG := iDecodeWord f p8 l d8 p6 (tab l.length FF) d6 (m.length : Int) w16 (by omega) (by rw [tab_len]; omega) (HS5.out.keep b6) s6 (HT.out.below c16) (HG.out.below c16)
        rw [HNUM.out.1, HN1.out, HNUM.out.2.2.1] at HDG
        have HDD := Lib.hid HDG
        have HX16 := Lib.hid (HX15.out.keep b6)
        have HY16 := Lib.hid (HY15.out.keep b6)
        have HG16 := Lib.hid (HG15.out.keep b6)
        have HM16 := Lib.hid (HM15.out.keep b6)
        have HE16 := Lib.hid (HE15.out.keep b6)
        clear s6 b6 HCPY HDG HS5 HX15 HY15 HG15 HM15 HE15 c15
        go_wp2_with fail
        refine HDD.out.mono ?_
        rintro e w17 ⟨p7, d7, rfl, o7, b7⟩
        have c17 := below_step c16 b7
        have HSM := Lib.hid (sameZ p7 a2 m d7 cap2 w17 (by omega) o7.src (HM16.out.keep b7))
        have HX17 := Lib.hid (HX16.out.keep b7)
        have HY17 := Lib.hid (HY16.out.keep b7)
        have HG17 := Lib.hid (HG16.out.keep b7)
        have HE17 := Lib.hid (HE16.out.keep b7)
        clear o7 b7 HDD HX16 HY16 HG16 HM16 HE16 c16
        go_wp2_with fail
        refine HSM.out.mono ?_
        rintro e w18 ⟨rfl, b8⟩
        have c18 := below_step c17 b8
        have HCX := Lib.hid (cp_lc a l cap w18 (by omega) (HX17.out.keep b8))
        have HY18 := Lib.hid (HY17.out.keep b8)
        have HG18 := Lib.hid (HG17.out.keep b8)
        have HE18 := Lib.hid (HE17.out.keep b8)
        clear b8 HSM HX17 HY17 HG17 HE17 c17
        go_wp2_with fail
        refine HCX.out.mono ?_
        rintro e w19 ⟨p9, d9, rfl, s9, b9⟩
        have c19 := below_step c18 b9
        have HCY := Lib.hid (cp_y (some ⟨gb, 0, none⟩) FF l.length d5 w19 (by omega) (HY18.out.keep b9))
        have HS9 := Lib.hid s9
        have HY19 := Lib.hid (HY18.out.keep b9)
        have HG19 := Lib.hid (HG18.out.keep b9)
        have HE19 := Lib.hid (HE18.out.keep b9)
        clear s9 b9 HCX HY18 HG18 HE18 c18
        go_wp2_with fail
        refine HCY.out.mono ?_
        rintro e w20 ⟨p10, d10, rfl, s10, b10⟩
        have c20 := below_step c19 b10
        have HBG := iBlame f p9 l d9 p10 (tab l.length FF) d10 (m.length : Int) w20 (by omega) (by rw [tab_len]; omega) (HS9.out.keep b10) s10 (HT.out.below c20) (HG.out.below c20)
        rw [HNUM.out.2.2.2.1] at HBG
        have HBB := Lib.hid HBG
        have HY20 := Lib.hid (HY19.out.keep b10)
        have HG20 := Lib.hid (HG19.out.keep b10)
        have HE20 := Lib.hid (HE19.out.keep b10)
        clear s10 b10 HCY HBG HS9 HY19 HG19 HE19 c19
        go_wp2_with fail
        refine HBB.out.mono ?_
        rintro e w21 ⟨p11, d11, rfl, o11, b11⟩
        have c21 := below_step c20 b11
        have HSG := Lib.hid (sameZ p11 av (selL PP idS l.length) d11 cv w21 (by omega) o11.src (HG20.out.keep b11))
        have HY21 := Lib.hid (HY20.out.keep b11)
        have HE21 := Lib.hid (HE20.out.keep b11)
        clear o11 b11 HBB HY20 HG20 HE20 c20
        go_wp2_with fail
        refine HSG.out.mono ?_
        rintro e w22 ⟨rfl, b12⟩
        have c22 := below_step c21 b12
        have HCE : Hid (Calls Tryd.prog 24 #[.slice (some ⟨gw, 0, none⟩) l.length cw] w22 (ListC w22 (encL f l m))) := Lib.hid (by
          have h9 := cp_lc (some ⟨gw, 0, none⟩) (encL f l m) cw w22 (by rw [encL_len]; omega) (by rw [encL_len]; exact HE21.out.keep b12)
          rwa [encL_len] at h9)
        have HY22 := Lib.hid (HY21.out.keep b12)
        clear b12 HSG HY21 HE21 c21
        go_wp2_with fail
        refine HCE.out.mono ?_
        rintro e w23 ⟨p13, d13, rfl, s13, b13⟩
        have c23 := below_step c22 b13
        have HCY2 := Lib.hid (cp_y (some ⟨gb, 0, none⟩) FF l.length d5 w23 (by omega) (HY22.out.keep b13))
        have HS13 := Lib.hid s13
        clear s13 b13 HCE HY22 c22
        go_wp2_with fail
        refine HCY2.out.mono ?_
        rintro e w24 ⟨p14, d14, rfl, s14, b14⟩
        have c24 := below_step c23 b14
        have HDI := iDiffer p13 (encL f l m) d13 p14 (tab l.length FF) d14 w24 (by rw [encL_len]; omega) (by rw [tab_len]; omega) (HS13.out.keep b14) s14
        rw [HDF.out] at HDI
        have HDD2 := Lib.hid HDI
        clear s14 b14 HCY2 HDI HS13 c23
        go_wp2_with fail
        refine HDD2.out.mono ?_
        rintro e w25 ⟨rfl, b15⟩
        have c25 := below_step c24 b15
        go_wp2
        go_ret
        exact ⟨rfl, c25⟩
  · have RN := sEncodeWord f a l cap a2 m cap2 w1 (by omega) (by omega) HX1.out HM1.out
    rw [show mEncodeWord f l m = [] by unfold mEncodeWord; rw [if_neg k1]] at RN
    have HRN := Lib.hid RN
    clear RN
    go_wp2_with fail
    refine HRN.out.mono ?_
    rintro e w2 ⟨p2, d2, rfl, _, b2⟩
    have c2 := below_step HB1.out b2
    go_wp2
    go_ret
    exact ⟨rfl, c2⟩
end Go.Proofs.YtangofjpnhhfeabDoor
