/-
  Texts of the proofs of this seat, joined (part 3).
-/
import Derived.BigRegion
import Derived.Outline
import Derived.Deep.CutBlock
import Derived.Deep.CutRange
import Derived.Deep.RegionHeld3
import Derived.Deep.AppendLies
import Derived.StillTailTactics
import Derived.Test.YtoonpnfhcmghmaaDoorJ2
namespace Go.Proofs.YtoonpnfhcmghmaaDoor
open Go.RowKit
theorem transform_c (f : Int) (a : Option Addr) (l : List Int) (cap : Nat) (w : World) (ht : Tab w) (h : VecOk f l) (hs : Src w a l.length (lf l)) : Calls Tryd.prog 110 #[.int .i64 f, .slice a l.length cap] w (OwnG w (fwdL f l)) := by
  obtain ⟨k, k9, hn, hl, hh⟩ := h.log
  have HP := Lib.hid (iPermute a l.length cap k (lf l) w k9 hn hs)
  have HL : Hid (∀ w, Calls Tryd.prog 92 #[.int .i64 l.length] w fun e w' => e = .returned (.int .i64 k) ∧ w = w') := Lib.hid fun w => by have := iLogOf l.length w; rwa [hl] at this
  have hpl := permL_len l k
  have HV : Hid (∀ (g : Nat) (w1 : World), Tab w1 → Own w1 g l.length (fun j => lf l (rv j k)) → Calls Tryd.prog 130 #[.int .i64 f, .slice (some ⟨g, 0, none⟩) l.length l.length, .int .i64 0, .int .i64 k] w1 (OwnG w1 (fwdL f l))) := Lib.hid fun g w1 ht1 ho => by
    have hsrc : Src w1 (some ⟨g, 0, none⟩) (permL l k).length (lf (permL l k)) := by
      rw [hpl]
      exact (own_congr ho rfl (fun j hj => by unfold permL; rw [lf_tab, if_pos hj])).src
    have := levels_c f (some ⟨g, 0, none⟩) (permL l k) l.length 0 k k w1 ht1 (h.perm k) hsrc (by omega) (by rw [hpl, hl]; exact Int.le_refl _)
    rw [lv_fwd h hn, hpl] at this
    exact this
  clear hs hn hl hh h hpl
  go_enter Tryd.func110, Tryd.ntmps110
  go_wp2_with fail
  refine HP.out.mono ?_
  rintro e w1 ⟨rfl, o1, b1⟩
  have HO1 := Lib.hid o1
  clear o1 HP
  go_wp2_with fail
  refine (HL.out w1).mono ?_
  rintro e w' ⟨rfl, rfl⟩
  go_wp2_with fail
  refine (HV.out w.heap.size w1 (ht.below b1) HO1.out).mono ?_
  rintro e w2 h2
  have HR := Lib.hid (h2.up b1)
  obtain ⟨g, rfl, _⟩ := h2
  clear HV HO1
  go_wp2
  go_ret
  exact HR.out
set_option maxRecDepth 100000 in
set_option maxHeartbeats 1600000 in
theorem transformBack_c (f : Int) (a : Option Addr) (l : List Int) (cap : Nat) (w : World) (ht : Tab w) (h : VecOk f l) (hs : Src w a l.length (lf l)) : Calls Tryd.prog 111 #[.int .i64 f, .slice a l.length cap] w (OwnG w (bwdL f l)) := by
  obtain ⟨h0, h8⟩ := h.f08
  have hpos := h.pos
  have hp := P_bd h0 h8
  have HT := Lib.hid (transform_c f a l cap w ht h hs)
  have hfl := fwdL_len f l
  have hml := mirL_len (fwdL f l)
  obtain ⟨k, k9, hn, hl, hh⟩ := h.log
  have hle : (l.length : Int) < P f := by
    have hle := two_le hh
    have e : two (k : Int) = (l.length : Int) := by unfold two; rw [hn, Int.toNat_natCast, Int.natCast_pow]; rfl
    omega
  have hinv : PW (P f) (l.length : Int) (P f - 2) = mPower f l.length (-1) := by
    rw [inverse_inv h0 h8 (by omega) hle]
    unfold invF
    rw [RS_self (by omega) hle, if_neg (by omega)]
  have HI : Hid (∀ w, Tab w → Calls Tryd.prog 112 #[.int .i64 f, .int .i64 l.length] w fun e w' => e = .returned (.int .i64 (mPower f l.length (-1))) ∧ w = w') := Lib.hid fun w ht => by
    have := inverse_c f l.length w ht h0 h8 (by omega) hle
    rwa [hinv] at this
  have hib : 0 ≤ mPower f l.length (-1) ∧ mPower f l.length (-1) < P f := by
    have := (inv_one h0 h8 (z := (l.length : Int)) (by rw [RS_self (by omega) hle]; omega)).2
    omega
  have HEQ : Hid (∀ j, j < l.length → RS (lf (mirL (fwdL f l)) j * mPower f l.length (-1)) (P f) = lf (bwdL f l) j) := Lib.hid fun j hj => bwd_by_fwd h hj
  have HFB : Hid (∀ j, 0 ≤ lf (mirL (fwdL f l)) j ∧ lf (mirL (fwdL f l)) j < P f) := Lib.hid fun j => h.fwd.mir.lt j
  have HMR : Hid (∀ (g : Nat) (w1 : World), Own w1 g l.length (lf (fwdL f l)) → Calls Tryd.prog 132 #[.slice (some ⟨g, 0, none⟩) l.length l.length] w1 fun e w' => ∃ g2, e = .returned (.slice (some ⟨g2, 0, none⟩) l.length l.length) ∧ w1.heap.size ≤ g2 ∧ Own w' g2 l.length (lf (mirL (fwdL f l))) ∧ Below w1.heap.size w1 w') := Lib.hid fun g w1 ho => by
    have hsrc : Src w1 (some ⟨g, 0, none⟩) (fwdL f l).length (lf (fwdL f l)) := by rw [hfl]; exact ho.src
    have := mirrored_c (some ⟨g, 0, none⟩) (fwdL f l) l.length w1 (by omega) (by omega) hsrc
    rw [hfl] at this
    refine this.mono ?_
    rintro e w' ⟨g2, rfl, hg2, ho2, hb2⟩
    rw [hml, hfl] at ho2
    refine ⟨g2, ?_, hg2, ho2, hb2⟩
    rw [hml, hfl]
  have HBL := Lib.hid (bwdL_len f l)
  have HFL := Lib.hid hfl
  clear hs hn hl hh h hfl hml hinv hle
  generalize mPower f l.length (-1) = c at *
  generalize hnn : l.length = n at *
  generalize lf (mirL (fwdL f l)) = M at *
  clear hnn
  go_enter Tryd.func111, Tryd.ntmps111
  go_wp2_with fail
  refine HT.out.mono ?_
  rintro e w1 ⟨g, rfl, hg, o1, b1⟩
  rw [HFL.out] at o1 ⊢
  have HO1 := Lib.hid o1
  clear o1 HT
  go_wp2_with fail
  refine (HMR.out g w1 HO1.out).mono ?_
  rintro e w2 ⟨g2, rfl, hg2, o2, b2⟩
  have HO2 := Lib.hid o2
  have b3 := below_up b1 b2 b1.size
  have hg3 : w.heap.size ≤ g2 := Nat.le_trans b1.size hg2
  clear o2 HO1 HMR b1 b2 hg hg2
  go_wp2_with fail
  refine (HI.out w2 (ht.below b3)).mono ?_
  rintro e w' ⟨rfl, rfl⟩
  clear HI
  go_wp2_with fail
  go_loopw [7, 8, 19] (fun _ _ i wr => ∃ j : Nat, i = .int .i64 j ∧ j ≤ n ∧ Own wr g2 n (fun x => if x < j then RS (M x * c) (P f) else M x) ∧ Below w.heap.size w wr) (fun _ _ i _ => n - (intOf i).toNat)
  case atStart => exact ⟨0, rfl, Nat.zero_le _, own_congr HO2.out rfl (fun j _ => by simp), b3⟩
  case round =>
    clear HO2 b3
    obtain ⟨j, rfl, hj, ho, hb⟩ := hrel
    by_cases h1 : j < n
    · have c1 : wr.cell? ⟨g2, j, none⟩ = some (.int .i64 (M j)) := by have := World.rowIs.cell ho h1; simpa using this
      have c4 := World.rowIs.frozen ho j
      have hd1 : decide ((j : Int) < n) = true := decide_eq_true (by omega)
      have HS : Hid (Own (wr.setCell ⟨g2, j, none⟩ (.int .i64 (RS (M j * c) (P f)))) g2 n (fun x => if x < j + 1 then RS (M x * c) (P f) else M x)) := Lib.hid ((World.rowIs.set ho j (.int .i64 (RS (M j * c) (P f)))).congr fun x _ => by
        by_cases e : x = j
        · subst e; simp
        · by_cases e2 : x < j
          · simp [e, e2, show x < j + 1 by omega]
          · simp [e, e2, show ¬ x < j + 1 by omega])
      have hm := HFB.out j
      clear ho
      go_wp2_with fail
      refine (mul_c f (M j) c wr (ht.below hb) h0 h8 hm.1 hm.2 hib.1 hib.2).mono ?_
      rintro e w' ⟨rfl, rfl⟩
      go_wp2
      go_roundw
      case rel => exact ⟨j + 1, by go_num, by omega, HS.out, hb.setCell hg3 _⟩
      case measure => simp [intOf]; omega
    · have hd1 : decide ((j : Int) < n) = false := decide_eq_false (by omega)
      obtain rfl : j = n := by omega
      have HF : Hid (OwnG w (bwdL f l) (.returned (.slice (some ⟨g2, 0, none⟩) j j)) wr) := Lib.hid (OwnG.of_own ho HBL.out.symm hg3 (fun x hx => by simp [hx]; exact HEQ.out x hx) hb)
      clear ho
      go_wp2
      go_ret
      exact HF.out
theorem twi_at {f : Int} {n : Nat} {A B : Nat → Int} (hA : ∀ j, n ≤ j → A j = 0) (hB : ∀ j, n ≤ j → B j = 0) {x : Nat} (hx : x < n) :
    (if x < n - 1 then RS (RS (cpar A B x n) (P f) - RS (cpar A B (n + x) n) (P f)) (P f) else RS (cpar A B x n) (P f)) = RS (twiF n A B x) (P f) := by
  rw [twi_fold hx hA hB, cpar_end x hA, cpar_end (n + x) hA, Nat.add_comm n x]
  by_cases h : x < n - 1
  · rw [if_pos h]
    unfold RS
    rw [← Int.sub_emod]
  · rw [if_neg h, cv_out (k := x + n) hA hB (by omega), Int.sub_zero]
set_option maxRecDepth 100000 in
set_option maxHeartbeats 1600000 in
theorem twisted_some (f : Int) (b off b2 off2 n cap cap2 : Nat) (A B : Nat → Int) (w : World) (ht : Tab w) (h0 : 0 ≤ f) (h8 : f ≤ 8) (n0 : 0 < n) (hn : n ≤ 512) (hA : ∀ j, 0 ≤ A j ∧ A j < P f) (hB : ∀ j, 0 ≤ B j ∧ B j < P f) (hB2 : ∀ j, n ≤ j → B j = 0) (hlt : b < w.heap.size) (hlt2 : b2 < w.heap.size)
    (hc : ∀ j, j < n → w.cell? ⟨b, off + j, none⟩ = some (.int .i64 (A j))) (hc2 : ∀ j, j < n → w.cell? ⟨b2, off2 + j, none⟩ = some (.int .i64 (B j))) :
    Calls Tryd.prog 57 #[.int .i64 f, .slice (some ⟨b, off, none⟩) n cap, .slice (some ⟨b2, off2, none⟩) n cap2] w fun e w' => ∃ g, e = .returned (.slice (some ⟨g, 0, none⟩) n n) ∧ w.heap.size ≤ g ∧ Own w' g n (fun x => if x < n - 1 then RS (RS (cpar A B x n) (P f) - RS (cpar A B (n + x) n) (P f)) (P f) else RS (cpar A B x n) (P f)) ∧ Below w.heap.size w w' := by
  have hp := P_bd h0 h8
  obtain ⟨N, hN⟩ : ∃ N, n + n = N + 1 := ⟨n + n - 1, by omega⟩
  have HPR := Lib.hid (product_some f b off b2 off2 n n cap cap2 N A B w ht h0 h8 (by omega) (by omega) n0 n0 hN hA hB hB2 hlt hlt2 hc hc2)
  obtain ⟨C, hC⟩ : ∃ C : Nat → Int, C = fun k => RS (cpar A B k n) (P f) := ⟨_, rfl⟩
  have HCB : Hid (∀ j, 0 ≤ C j ∧ C j < P f) := Lib.hid fun j => by rw [hC]; exact RS_bd (by omega)
  have hmk := made_n n (by omega)
  obtain ⟨q, hq⟩ : ∃ q, n = q + 1 := ⟨n - 1, by omega⟩
  have HG : Hid (∀ (g : Nat) (e : Ending) (w' : World), e = .returned (.slice (some ⟨g, 0, none⟩) n n) → w.heap.size ≤ g → Own w' g n (fun x => if x < q then RS (C x - C (n + x)) (P f) else C x) → Below w.heap.size w w' → ∃ g, e = .returned (.slice (some ⟨g, 0, none⟩) n n) ∧ w.heap.size ≤ g ∧ Own w' g n (fun x => if x < n - 1 then RS (RS (cpar A B x n) (P f) - RS (cpar A B (n + x) n) (P f)) (P f) else RS (cpar A B x n) (P f)) ∧ Below w.heap.size w w') := Lib.hid fun g e w' h1 h2 h3 h4 => ⟨g, h1, h2, by rw [hC] at h3; rw [show n - 1 = q by omega]; exact h3, h4⟩
  have HSL : Hid (∀ g : Nat, ∃ p : Option Addr, (0 < q → p = some ⟨g, n, none⟩) ∧ ∀ w : World, (Instr.slice 24 (.slice (some ⟨g, 0, none⟩) N N) (some (.int .i64 n)) none none).run Tryd.prog w = .ok (.slice p q q) w) := Lib.hid fun g => by
    obtain ⟨i, hi, hzz⟩ := Option.map_eq_some_iff.1 info3
    simp only [Prod.mk.injEq] at hzz
    by_cases hz : q = 0
    · refine ⟨some ⟨g, 0, none⟩, fun h => absurd hz (by omega), fun w => ?_⟩
      have e1 : N = n := by omega
      have e2 : n = 1 := by omega
      subst e1
      simp [Instr.slice, run_underlying Tryd.underlying24, Instr.sliceBounds, Instr.sliceBound, asIntOf, sizeOf, typeInfo, hi, hz]
    · refine ⟨some ⟨g, n, none⟩, fun _ => rfl, fun w => ?_⟩
      have e1 : ¬ N = n := by omega
      have e2 : n ≤ N := by omega
      have e3 : N - n = q := by omega
      simp [Instr.slice, run_underlying Tryd.underlying24, Instr.sliceBounds, Instr.sliceBound, asIntOf, sizeOf, typeInfo, hi, hzz.2.1, e1, e2, e3, Addr.add_lit]
  rw [← hC] at HPR
  have HQ := Lib.hid hq
  have HNN := Lib.hid hN
  clear hc hc2 hA hB hB2 hq hN hC
  go_enter Tryd.func57, Tryd.ntmps57
  go_wp2_with fail
  refine HPR.out.mono ?_
  rintro e w1 ⟨rfl, o1, b1⟩
  have HO1 := Lib.hid o1
  have HS1 := Lib.hid o1.src
  clear o1 HPR
  have hz1 := b1.size
  have hnN : n ≤ N := by have := HNN.out; omega
  go_wp2_with (with_reducible refine wpList_copy_made rfl _ _ rfl n 0 n n N N _ _ C rfl rfl (fun _ => rfl) hnN (by omega) HS1.out ?_)
  intro w2 HO2 b2
  have HO3 : Hid (Own w2 w1.heap.size n C) := Lib.hid (own_congr HO2.out rfl (fun j hj => show _ = C j by simp [hj]))
  have HO4 := Lib.hid (HO1.out.keep b2)
  have b3 := below_up b1 b2 b1.size
  obtain ⟨p, hpp, hsl⟩ := HSL.out w.heap.size
  have HPP := Lib.hid hpp
  have hg1 : w1.heap.size ≠ w.heap.size := by have := HO1.out.lt; omega
  clear hmk HO1 HO2 HS1 b1 b2 hpp HSL
  go_wp2_with fail
  clear hsl
  go_loopw [9, 10, 26] (fun _ _ i wr => ∃ j : Nat, i = .int .i64 j ∧ j ≤ q ∧ Own wr w1.heap.size n (fun x => if x < j then RS (C x - C (n + x)) (P f) else C x) ∧ Own wr w.heap.size N C ∧ Below w.heap.size w wr) (fun _ _ i _ => q - (intOf i).toNat)
  case atStart => exact ⟨0, rfl, Nat.zero_le _, own_congr HO3.out rfl (fun j _ => by simp), HO4.out, b3⟩
  case round =>
    clear HO3 HO4 b3
    obtain ⟨j, rfl, hj, ho, ho1, hb⟩ := hrel
    by_cases h1 : j < q
    · have hjn : j < n := by have := HQ.out; omega
      have hp1 := HPP.out (by omega)
      subst hp1
      have c0 : wr.cell? ⟨w.heap.size, n + j, none⟩ = some (.int .i64 (C (n + j))) := World.rowIs.cell ho1 (by have := HQ.out; have := HNN.out; omega)
      have c1 : wr.cell? ⟨w1.heap.size, j, none⟩ = some (.int .i64 (C j)) := by have := World.rowIs.cell ho hjn; simpa using this
      have c4 := World.rowIs.frozen ho j
      have hd1 : decide ((j : Int) < q) = true := decide_eq_true (by omega)
      have hjn2 : (j : Int) < n := by omega
      have HS : Hid (Own (wr.setCell ⟨w1.heap.size, j, none⟩ (.int .i64 (RS (C j - C (n + j)) (P f)))) w1.heap.size n (fun x => if x < j + 1 then RS (C x - C (n + x)) (P f) else C x)) := Lib.hid ((World.rowIs.set ho j (.int .i64 (RS (C j - C (n + j)) (P f)))).congr fun x _ => by
        by_cases e : x = j
        · subst e; simp
        · by_cases e2 : x < j
          · simp [e, e2, show x < j + 1 by omega]
          · simp [e, e2, show ¬ x < j + 1 by omega])
      have HS2 : Hid (Own (wr.setCell ⟨w1.heap.size, j, none⟩ (.int .i64 (RS (C j - C (n + j)) (P f)))) w.heap.size N C) := Lib.hid (World.rowIs.setOther ho1 (fun e => hg1 e.symm) _)
      have hm1 := HCB.out j
      have hm2 := HCB.out (n + j)
      clear ho ho1
      go_wp2_with fail
      refine (sub_c f (C j) (C (n + j)) wr (ht.below hb) h0 h8 hm1.1 hm1.2 hm2.1 hm2.2).mono ?_
      rintro e w' ⟨rfl, rfl⟩
      go_wp2
      go_roundw
      case rel => exact ⟨j + 1, by go_num, by omega, HS.out, HS2.out, hb.setCell hz1 _⟩
      case measure => simp [intOf]; omega
    · have hd1 : decide ((j : Int) < q) = false := decide_eq_false (by omega)
      obtain rfl : j = q := by omega
      have HF := Lib.hid (HG.out w1.heap.size _ wr rfl hz1 ho hb)
      clear ho ho1 HG
      go_wp2
      go_ret
      exact HF.out
theorem twisted_c (f : Int) (a : Option Addr) (l : List Int) (cap : Nat) (a2 : Option Addr) (m : List Int) (cap2 : Nat) (w : World) (ht : Tab w) (h : TwoOk f l m) (hs : Src w a l.length (lf l)) (hs2 : Src w a2 m.length (lf m)) : Calls Tryd.prog 57 #[.int .i64 f, .slice a l.length cap, .slice a2 m.length cap2] w (OwnG w (twiL f l m)) := by
  obtain ⟨hlm, hl, hm⟩ := h
  have hp := hl.pos
  obtain ⟨b, off, rfl, hlt, hc⟩ := vec_some hs hp.1
  obtain ⟨b2, off2, rfl, hlt2, hc2⟩ := vec_some hs2 hm.pos.1
  rw [← hlm] at hc2 ⊢
  refine (twisted_some f b off b2 off2 l.length cap cap2 (lf l) (lf m) w ht hl.f08.1 hl.f08.2 hp.1 hp.2 hl.lt hm.lt (fun j hj => lf_out m (by omega)) hlt hlt2 hc hc2).mono ?_
  rintro e w' ⟨g, rfl, hg, ho, hb⟩
  exact OwnG.of_own ho (tab_len _ _).symm hg (fun j hj => by unfold twiL; rw [lf_tab, if_pos hj]; exact twi_at (fun t ht => lf_out l ht) (fun t ht => lf_out m (by omega)) hj) hb
theorem iPointwise (f : Int) (a : Option Addr) (l : List Int) (cap : Nat) (a2 : Option Addr) (m : List Int) (cap2 : Nat) (w : World) (hn : l.length ≤ 1048576) (hn2 : m.length ≤ 1048576) (hs : Src w a l.length (lf l)) (hs2 : Src w a2 m.length (lf m)) (ht : Tab w) : Calls Tryd.prog 27 #[.int .i64 f, .slice a l.length cap, .slice a2 m.length cap2] w (OwnL w (mPointwise f l m)) := by
  have R1 := areVectors_c f a a2 l m cap cap2 w hn hn2 hs hs2 ht
  by_cases h : TwoOk f l m
  · rw [two_iff.2 h] at R1
    rw [show mPointwise f l m = ptwL f l m by unfold mPointwise; rw [if_pos h]]
    have HR1 := Lib.hid R1
    have HT := Lib.hid (pointwise_c f a l cap a2 m cap2 w hs hs2 ht h)
    clear R1 hs hs2 h
    go_enter Tryd.func27, Tryd.ntmps27
    go_wp2_with fail
    refine HR1.out.mono ?_
    rintro e w' ⟨rfl, rfl⟩
    go_wp2_with fail
    refine HT.out.mono ?_
    rintro e w1 h1
    have HR := Lib.hid h1.own
    obtain ⟨g, rfl, _⟩ := h1
    go_wp2
    go_ret
    exact HR.out
  · rw [two_not.2 h] at R1
    rw [show mPointwise f l m = [] by unfold mPointwise; rw [if_neg h]]
    have HR1 := Lib.hid R1
    clear R1 hs hs2 h
    go_enter Tryd.func27, Tryd.ntmps27
    go_wp2_with fail
    refine HR1.out.mono ?_
    rintro e w' ⟨rfl, rfl⟩
    go_wp2
    go_ret
    exact ⟨none, 0, rfl, OwnA.nil rfl, Below.refl _ _⟩
theorem iTwisted (f : Int) (a : Option Addr) (l : List Int) (cap : Nat) (a2 : Option Addr) (m : List Int) (cap2 : Nat) (w : World) (hn : l.length ≤ 1048576) (hn2 : m.length ≤ 1048576) (hs : Src w a l.length (lf l)) (hs2 : Src w a2 m.length (lf m)) (ht : Tab w) : Calls Tryd.prog 17 #[.int .i64 f, .slice a l.length cap, .slice a2 m.length cap2] w (OwnL w (mTwisted f l m)) := by
  have R1 := areVectors_c f a a2 l m cap cap2 w hn hn2 hs hs2 ht
  by_cases h : TwoOk f l m
  · rw [two_iff.2 h] at R1
    rw [show mTwisted f l m = twiL f l m by unfold mTwisted; rw [if_pos h]]
    have HR1 := Lib.hid R1
    have HT := Lib.hid (twisted_c f a l cap a2 m cap2 w ht h hs hs2)
    clear R1 hs hs2 h
    go_enter Tryd.func17, Tryd.ntmps17
    go_wp2_with fail
    refine HR1.out.mono ?_
    rintro e w' ⟨rfl, rfl⟩
    go_wp2_with fail
    refine HT.out.mono ?_
    rintro e w1 h1
    have HR := Lib.hid h1.own
    obtain ⟨g, rfl, _⟩ := h1
    go_wp2
    go_ret
    exact HR.out
  · rw [two_not.2 h] at R1
    rw [show mTwisted f l m = [] by unfold mTwisted; rw [if_neg h]]
    have HR1 := Lib.hid R1
    clear R1 hs hs2 h
    go_enter Tryd.func17, Tryd.ntmps17
    go_wp2_with fail
    refine HR1.out.mono ?_
    rintro e w' ⟨rfl, rfl⟩
    go_wp2
    go_ret
    exact ⟨none, 0, rfl, OwnA.nil rfl, Below.refl _ _⟩
end Go.Proofs.YtoonpnfhcmghmaaDoor
namespace Go.Proofs.YtoonpnfhcmghmaaDoor
/-- An odd number to the 2^k is 1 modulo 2^(k+1). -/
theorem odd_pow {b : Nat} (hb : b % 2 = 1) : ∀ k : Nat, ∃ q, b ^ (2 ^ k) = 1 + 2 ^ (k + 1) * q
  | 0 => ⟨b / 2, by rw [Nat.pow_zero, Nat.pow_one, Nat.zero_add, Nat.pow_one]; omega⟩
  | k + 1 => by
    obtain ⟨q, hq⟩ := odd_pow hb k
    refine ⟨q + 2 ^ k * (q * q), ?_⟩
    rw [Nat.pow_succ 2 k, Nat.pow_mul, hq]
    have e2 : 2 ^ (k + 1 + 1) = 4 * 2 ^ k := by rw [Nat.pow_succ, Nat.pow_succ]; omega
    have e1 : 2 ^ (k + 1) = 2 * 2 ^ k := by rw [Nat.pow_succ]; omega
    rw [e1, e2]
    generalize 2 ^ k = h
    rw [Nat.pow_two]
    simp only [Nat.add_mul, Nat.mul_add, Nat.one_mul, Nat.mul_one]
    have e3 : 2 * h * q * (2 * h * q) = 4 * h * (h * (q * q)) := by
      simp only [Nat.mul_assoc, Nat.mul_left_comm, Nat.mul_comm]
    rw [e3]
    have e4 : 4 * h * q = 2 * h * q + 2 * h * q := by rw [← Nat.add_mul]; congr 1; omega
    rw [e4]
    omega
theorem mul_self_inv {b k : Nat} (hb : b % 2 = 1) : b * b ^ (2 ^ k - 1) % (2 * 2 ^ k) = 1 := by
  obtain ⟨q, hq⟩ := odd_pow hb k
  have h0 : 0 < 2 ^ k := Nat.pow_pos (by omega)
  have e : b * b ^ (2 ^ k - 1) = b ^ (2 ^ k) := by
    rw [Nat.mul_comm, ← Nat.pow_succ]
    congr 1
    omega
  rw [e, hq, Nat.pow_succ, Nat.mul_comm (2 ^ k) 2, Nat.add_mul_mod_self_left]
  exact Nat.mod_eq_of_lt (by omega)
/-- The sequence that goes on behind n with its sign turned. -/
def sgF (n : Nat) (A : Nat → Int) (e : Nat) : Int := if e % (2 * n) < n then A (e % (2 * n)) else - A (e % (2 * n) - n)
theorem sg_low {n e : Nat} (A : Nat → Int) (h : e < n) : sgF n A e = A e := by
  unfold sgF
  rw [Nat.mod_eq_of_lt (by omega), if_pos h]
theorem sg_mod (n : Nat) (A : Nat → Int) (e : Nat) : sgF n A (e % (2 * n)) = sgF n A e := by
  unfold sgF
  rw [Nat.mod_mod]
theorem sg_congr {n : Nat} {A : Nat → Int} {e d : Nat} (h : e % (2 * n) = d % (2 * n)) : sgF n A e = sgF n A d := by
  rw [← sg_mod n A e, ← sg_mod n A d, h]
theorem sg_turn {n : Nat} (hn : 0 < n) (A : Nat → Int) (e : Nat) : sgF n A (e + n) = - sgF n A e := by
  have h : (e + n) % (2 * n) = if e % (2 * n) < n then e % (2 * n) + n else e % (2 * n) - n := by
    have hr : e % (2 * n) < 2 * n := Nat.mod_lt _ (by omega)
    have hd := Nat.div_add_mod e (2 * n)
    generalize e % (2 * n) = r at *
    generalize e / (2 * n) = q at *
    subst hd
    by_cases h : r < n
    · rw [if_pos h, Nat.add_assoc, Nat.mul_add_mod, Nat.mod_eq_of_lt (by omega)]
    · rw [if_neg h, show 2 * n * q + r + n = 2 * n * (q + 1) + (r - n) by rw [Nat.mul_add]; omega, Nat.mul_add_mod, Nat.mod_eq_of_lt (by omega)]
  have hr : e % (2 * n) < 2 * n := Nat.mod_lt _ (by omega)
  unfold sgF
  rw [h]
  by_cases h1 : e % (2 * n) < n
  · rw [if_pos h1, if_pos h1, if_neg (by omega), Nat.add_sub_cancel]
  · rw [if_neg h1, if_neg h1, if_pos (by omega), Int.neg_neg]
/-- The exponent's inverse carries an index's image back: what lies at t comes from t times the inverse. -/
theorem sg_image {n b c : Nat} (_hn : 0 < n) (hbc : b * c % (2 * n) = 1) (A : Nat → Int) {i : Nat} (hi : i < n) : sgF n A (i * b % (2 * n) * c) = A i := by
  rw [sg_congr (d := i), sg_low A hi]
  have h1 : i * b % (2 * n) * c % (2 * n) = i * (b * c) % (2 * n) := by
    rw [Nat.mod_mul_mod, Nat.mul_assoc]
  rw [h1, Nat.mul_mod, hbc, Nat.mul_one, Nat.mod_mod]
/-- A sum over the images of a permutation. -/
theorem sumN_perm (F : Nat → Int) {n : Nat} (p q : Nat → Nat) (hp : ∀ j, j < n → p j < n) (hq : ∀ t, t < n → q t < n) (h1 : ∀ j, j < n → q (p j) = j) (h2 : ∀ t, t < n → p (q t) = t) : sumN (fun j => F (p j)) n = sumN F n := by
  have e1 : sumN (fun j => F (p j)) n = sumN (fun j => sumN (fun t => if t = p j then F t else 0) n) n := sumN_congr fun j hj => by rw [sumN_single, if_pos (hp j hj)]
  rw [e1, sumN_swap]
  refine sumN_congr fun t ht => ?_
  have e2 : sumN (fun j => if t = p j then F t else 0) n = sumN (fun j => if j = q t then F t else 0) n := sumN_congr fun j hj => by
    by_cases h : t = p j
    · rw [if_pos h, if_pos (by rw [h, h1 j hj])]
    · rw [if_neg h, if_neg (fun e => h (by rw [e, h2 t ht]))]
  rw [e2, sumN_single (fun _ => F t), if_pos (hq t ht)]
/-- The negacyclic product's coefficient at any exponent. -/
def neF (n : Nat) (A B : Nat → Int) (e : Nat) : Int := sumN (fun j => sgF n A j * sgF n B (e + j * (2 * n - 1))) n
theorem sg_more {n : Nat} (A : Nat → Int) (e k : Nat) : sgF n A (e + 2 * n * k) = sgF n A e := sg_congr (by rw [Nat.add_mul_mod_self_left])
theorem ne_twi {n : Nat} (A B : Nat → Int) {i : Nat} (hi : i < n) : neF n A B i = twiF n A B i := by
  unfold neF twiF
  refine sumN_congr fun j hj => ?_
  rw [sg_low A hj]
  by_cases h : j ≤ i
  · have e : i + j * (2 * n - 1) = (i - j) + 2 * n * j := by
      have : j * (2 * n - 1) + j = 2 * n * j := by rw [← Nat.mul_succ, show (2 * n - 1).succ = 2 * n by omega, Nat.mul_comm]
      omega
    rw [e, sg_more, sg_low B (by omega), if_pos h]
  · obtain ⟨u, rfl⟩ : ∃ u, j = u + 1 := ⟨j - 1, by omega⟩
    have e : i + (u + 1) * (2 * n - 1) = (i + n - (u + 1)) + n + 2 * n * u := by
      have h1 : (u + 1) * (2 * n - 1) + (u + 1) = 2 * n * (u + 1) := by rw [← Nat.mul_succ, show (2 * n - 1).succ = 2 * n by omega, Nat.mul_comm]
      have h2 : 2 * n * (u + 1) = 2 * n * u + 2 * n := Nat.mul_succ _ _
      omega
    rw [e, sg_more, sg_turn (by omega), sg_low B (by omega), if_neg h, Int.mul_neg]
/-- An automorphism, seen at every exponent. -/
theorem sg_aut {n c : Nat} (hn : 0 < n) (hc : c % 2 = 1) {A C : Nat → Int} (hC : ∀ t, t < n → C t = sgF n A (t * c)) (e : Nat) : sgF n C e = sgF n A (e * c) := by
  have hr : e % (2 * n) < 2 * n := Nat.mod_lt _ (by omega)
  have h0 : sgF n A (e * c) = sgF n A (e % (2 * n) * c) := sg_congr (by rw [Nat.mod_mul_mod])
  rw [h0, ← sg_mod n C e]
  generalize e % (2 * n) = r at *
  by_cases h : r < n
  · rw [sg_low C h, hC r h]
  · obtain ⟨s, rfl⟩ : ∃ s, r = s + n := ⟨r - n, by omega⟩
    have e1 : (s + n) * c = s * c + n + 2 * n * (c / 2) := by
      have h1 : c = 2 * (c / 2) + 1 := by omega
      have h2 : n * c = 2 * n * (c / 2) + n := by
        conv => lhs; rw [h1, Nat.mul_succ, ← Nat.mul_assoc, Nat.mul_comm n 2]
      rw [Nat.add_mul, h2]
      omega
    rw [e1, sg_more, sg_turn hn, sg_turn hn, sg_low C (by omega), hC s (by omega)]
/-- An automorphism of a product is the product of the automorphisms. -/
theorem aut_ne {n b c : Nat} (hn : 0 < n) (hc : c % 2 = 1) (hbc : b * c % (2 * n) = 1) {A B C D : Nat → Int} (hC : ∀ t, t < n → C t = sgF n A (t * c)) (hD : ∀ t, t < n → D t = sgF n B (t * c)) (e : Nat) : neF n C D e = neF n A B (e * c) := by
  have hbn : b * c % n = 1 % n := by
    rw [← Nat.mod_mul_left_mod (b * c) 2 n, hbc]
  let G : Nat → Int := fun x => sgF n A x * sgF n B (e * c + x * (2 * n - 1))
  have hGn : ∀ x, G (x + n) = G x := fun x => by
    show sgF n A (x + n) * sgF n B (e * c + (x + n) * (2 * n - 1)) = sgF n A x * sgF n B (e * c + x * (2 * n - 1))
    have e1 : e * c + (x + n) * (2 * n - 1) = (e * c + x * (2 * n - 1)) + n + 2 * n * (n - 1) := by
      have h2 : n * (2 * n - 1) = n + 2 * n * (n - 1) := by
        obtain ⟨m, rfl⟩ : ∃ m, n = m + 1 := ⟨n - 1, by omega⟩
        rw [show 2 * (m + 1) - 1 = 2 * m + 1 by omega, Nat.add_sub_cancel, Nat.mul_succ, ← Nat.mul_assoc, Nat.mul_comm (m + 1) 2]
        omega
      rw [Nat.add_mul, h2]
      omega
    rw [e1, sg_more, sg_turn hn, sg_turn hn, Int.neg_mul_neg]
  have hGk : ∀ k x, G (x + n * k) = G x := fun k => by
    induction k with
    | zero => intro x; rw [Nat.mul_zero, Nat.add_zero]
    | succ k ih => intro x; rw [Nat.mul_succ, ← Nat.add_assoc, hGn, ih]
  have hGm : ∀ x, G (x % n) = G x := fun x => by
    conv => rhs; rw [← Nat.mod_add_div x n]
    rw [hGk]
  have h1 : neF n C D e = sumN (fun j => G (j * c % n)) n := by
    unfold neF
    refine sumN_congr fun j hj => ?_
    rw [hGm, sg_aut hn hc hC j, sg_aut hn hc hD]
    show _ = sgF n A (j * c) * sgF n B (e * c + j * c * (2 * n - 1))
    rw [Nat.add_mul, Nat.mul_right_comm]
  have h2 := sumN_perm G (n := n) (fun j => j * c % n) (fun t => t * b % n) (fun j _ => Nat.mod_lt _ hn) (fun t _ => Nat.mod_lt _ hn)
    (fun j hj => by
      show j * c % n * b % n = j
      rw [Nat.mod_mul_mod, Nat.mul_assoc, Nat.mul_comm c b, Nat.mul_mod, hbn, ← Nat.mul_mod, Nat.mul_one, Nat.mod_eq_of_lt hj])
    (fun t ht => by
      show t * b % n * c % n = t
      rw [Nat.mod_mul_mod, Nat.mul_assoc, Nat.mul_mod, hbn, ← Nat.mul_mod, Nat.mul_one, Nat.mod_eq_of_lt ht])
  rw [h1, h2]
  rfl
end Go.Proofs.YtoonpnfhcmghmaaDoor
namespace Go.Proofs.YtoonpnfhcmghmaaDoor
open Mth
theorem sq_pow (z : Int) (m : Nat) : (z * z) ^ m = z ^ (2 * m) := by rw [Int.pow_mul, show z ^ 2 = z * z by rw [Int.pow_succ, Int.pow_succ, Int.pow_zero, Int.one_mul]]
/-- The square of a root of order 2 n is one of order n. -/
theorem Rt.sq {f z v : Int} {n : Nat} (h : Rt f z v (2 * n)) (hn : 0 < n) : Rt f (z * z) (v * v) n := by
  refine ⟨h.h0, h.h8, hn, fun m => ?_, ?_⟩
  · have e : (z * z) ^ m = z ^ (2 * m) := by rw [Int.pow_mul, show z ^ 2 = z * z by rw [Int.pow_succ, Int.pow_succ, Int.pow_zero, Int.one_mul]]
    rw [e, h.ord]
    constructor
    · rintro ⟨q, hq⟩
      rw [Nat.mul_assoc] at hq
      exact ⟨q, by omega⟩
    · rintro ⟨q, hq⟩
      exact ⟨q, by rw [hq, Nat.mul_assoc]⟩
  · have e : z * z * (v * v) = (z * v) * (z * v) := by
      simp only [Int.mul_left_comm, Int.mul_comm]
    rw [e, emod_mul_congr h.inv h.inv, Int.mul_one]
/-- To the n it is -1. -/
theorem Rt.half2 {f z v : Int} {n : Nat} (h : Rt f z v (2 * n)) (hn : 0 < n) : z ^ n % P f = (-1) % P f := by
  refine Classical.byContradiction fun hs => ?_
  have h1 : (z ^ n - 1) % P f ≠ 0 := fun e => by
    have e2 : z ^ n % P f = 1 % P f := by
      have := emod_add_congr (p := P f) (a := z ^ n - 1) (b := 0) (c := 1) (d := 1) (by rw [e]; simp) rfl
      rwa [Int.sub_add_cancel, Int.zero_add] at this
    have := Nat.le_of_dvd hn ((h.ord n).1 e2)
    omega
  have h2 : (z ^ n + 1) % P f ≠ 0 := fun e => hs (by
    have := emod_add_congr (p := P f) (a := z ^ n + 1) (b := 0) (c := -1) (d := -1) (by rw [e]; simp) rfl
    rwa [Int.add_neg_cancel_right, Int.zero_add] at this)
  have h3 := mul_nz h.h0 h.h8 h1 h2
  have e3 : (z ^ n - 1) * (z ^ n + 1) = z ^ (2 * n) - 1 := by
    rw [Nat.mul_comm, Int.pow_mul, show (z ^ n) ^ 2 = z ^ n * z ^ n by rw [Int.pow_succ, Int.pow_succ, Int.pow_zero, Int.one_mul]]
    rw [Int.sub_mul, Int.mul_add, Int.mul_add]
    omega
  rw [e3] at h3
  exact h3 (emod_zero_of_sub h.full)
/-- The value at z^(2 i + 1). -/
def ovF (z : Int) (n : Nat) (A : Nat → Int) (i : Nat) : Int := sumN (fun j => A j * z ^ (j * (2 * i + 1))) n
theorem ov_ft (z : Int) (n : Nat) (A : Nat → Int) (i : Nat) : ovF z n A i = ftF (z * z) n (fun j => A j * z ^ j) i := by
  unfold ovF ftF
  refine sumN_congr fun j _ => ?_
  have e : (z * z) ^ (i * j) = z ^ (2 * (i * j)) := sq_pow z _
  have e2 : j * (2 * i + 1) = j + 2 * (i * j) := by
    rw [Nat.mul_succ, Nat.mul_comm i j, Nat.mul_left_comm, Nat.add_comm]
  rw [e, e2, Int.pow_add, Int.mul_assoc]
/-- The coefficient, n times, that the values give back. -/
def obF (v : Int) (n : Nat) (V : Nat → Int) (j : Nat) : Int := sumN (fun i => V i * v ^ (j * (2 * i + 1))) n
theorem ob_ft (v : Int) (n : Nat) (V : Nat → Int) (j : Nat) : obF v n V j = ftF (v * v) n V j * v ^ j := by
  unfold obF ftF
  rw [← sumN_mul_r]
  refine sumN_congr fun i _ => ?_
  have e : (v * v) ^ (j * i) = v ^ (2 * (j * i)) := sq_pow v _
  have e2 : j * (2 * i + 1) = 2 * (j * i) + j := by rw [Nat.mul_succ, Nat.mul_left_comm]
  rw [e, e2, Int.pow_add, Int.mul_assoc]
theorem ob_ov {f z v : Int} {n : Nat} (h : Rt f z v (2 * n)) (A : Nat → Int) {j : Nat} (hj : j < n) : obF v n (ovF z n A) j % P f = (A j * n) % P f := by
  have hs := h.sq (by omega)
  have e : ftF (v * v) n (ovF z n A) j % P f = (A j * z ^ j * n) % P f := by
    rw [show ovF z n A = ftF (z * z) n (fun j => A j * z ^ j) from funext fun i => ov_ft z n A i]
    exact ft_back hs (fun j => A j * z ^ j) hj
  rw [ob_ft, emod_mul_congr e rfl, show A j * z ^ j * n * v ^ j = (A j * n) * (z ^ j * v ^ j) by simp only [Int.mul_assoc, Int.mul_left_comm, Int.mul_comm],
    emod_mul_congr (c := z ^ j * v ^ j) (d := 1) rfl (h.wv j), Int.mul_one]
/-- The values of a negacyclic product are the products of the values. -/
theorem ov_twi {f z v : Int} {n : Nat} (h : Rt f z v (2 * n)) (A B : Nat → Int) (i : Nat) (hn : 0 < n) : ovF z n (twiF n A B) i % P f = (ovF z n A i * ovF z n B i) % P f := by
  have hs := h.sq hn
  have hh := h.half2 hn
  rw [ov_ft, ov_ft, ov_ft, ← ft_cyc hs]
  refine ft_mod (fun t ht => ?_) i
  unfold twiF cycF
  rw [← sumN_mul_r]
  refine sumN_mod fun j hj => ?_
  by_cases hjt : j ≤ t
  · rw [if_pos hjt, show (t + n - j) % n = t - j by rw [show t + n - j = (t - j) + n by omega, Nat.add_mod_right, Nat.mod_eq_of_lt (by omega)]]
    congr 1
    rw [show z ^ t = z ^ j * z ^ (t - j) by rw [← Int.pow_add]; congr 1; omega]
    simp only [Int.mul_assoc, Int.mul_left_comm]
  · rw [if_neg hjt, Nat.mod_eq_of_lt (show t + n - j < n by omega)]
    have e : A j * z ^ j * (B (t + n - j) * z ^ (t + n - j)) = (A j * B (t + n - j) * z ^ t) * z ^ n := by
      rw [show A j * B (t + n - j) * z ^ t * z ^ n = A j * B (t + n - j) * (z ^ j * z ^ (t + n - j)) by
        rw [← Int.pow_add, show j + (t + n - j) = t + n by omega, Int.pow_add, Int.mul_assoc, Int.mul_assoc]]
      simp only [Int.mul_assoc, Int.mul_left_comm]
    rw [e, emod_mul_congr (c := z ^ n) (d := -1) rfl hh, Int.mul_neg, Int.mul_one, Int.neg_mul]
end Go.Proofs.YtoonpnfhcmghmaaDoor
namespace Go.Proofs.YtoonpnfhcmghmaaDoor
open Mth
/-- 1, 0, 0, .. -/
def oneL (n : Nat) : List Int := tab n fun j => if j = 0 then 1 else 0
theorem oneL_len (n : Nat) : (oneL n).length = n := tab_len _ _
def OpenOk (f : Int) (l : List Int) : Prop := VecOk f l ∧ mLog l.length + 1 ≤ T f
def zL (f : Int) (l : List Int) : Int := mRoot f (mLog l.length + 1)
def zvL (f : Int) (l : List Int) : Int := mInvR f (mLog l.length + 1)
theorem OpenOk.has {f : Int} {l : List Int} (h : OpenOk f l) : hasK f (mLog l.length + 1) ∧ hasK f (mLog l.length) := by
  have h1 := h.1.1
  have h2 := h.2
  exact ⟨(hasK_iff _ _).2 ⟨by omega, h2⟩, (hasK_iff _ _).2 ⟨h1.1, h1.2⟩⟩
theorem OpenOk.rt {f : Int} {l : List Int} (h : OpenOk f l) : Rt f (zL f l) (zvL f l) (2 * l.length) := by
  obtain ⟨k, hk, hn, hl, hh⟩ := h.1.log
  have hs := rt_of h.has.1
  unfold zL zvL
  rw [hl] at hs ⊢
  have e : ((k : Int) + 1).toNat = k + 1 := by omega
  rw [e, Nat.pow_succ, Nat.mul_comm, ← hn] at hs
  exact hs
theorem root_sq {f k : Int} (h : hasK f (k + 1)) (hk : hasK f k) : mRoot f k % P f = (mRoot f (k + 1) * mRoot f (k + 1)) % P f := by
  have k0 : 0 ≤ k := hk.2.1
  obtain ⟨c, hc, c0, hc2⟩ := cut_root h
  obtain ⟨d, hd, d0, hd2⟩ := cut_root hk
  have e1 : (k + 1).toNat = k.toNat + 1 := by omega
  rw [e1, Nat.pow_succ] at hc
  have hdc : d = c * 2 := by
    have h0 : 0 < 2 ^ k.toNat := Nat.pow_pos (by omega)
    have : 2 ^ k.toNat * d = 2 ^ k.toNat * (2 * c) := by rw [← hd, hc, Nat.mul_assoc]
    have := Nat.eq_of_mul_eq_mul_left h0 this
    omega
  rw [mRoot_on hk, mRoot_on h]
  unfold PW
  rw [hc2, hd2, hdc, Nat.pow_mul, Nat.pow_two, Nat.mul_mod]
  have hp : ((P f).toNat : Int) = P f := by
    have := P_bd h.1.1 h.1.2
    omega
  rw [← hp]
  rw [← Int.natCast_mul, ← Int.natCast_emod, ← Int.natCast_emod, Int.toNat_natCast, Nat.mod_mod]
theorem OpenOk.sq {f : Int} {l : List Int} (h : OpenOk f l) : rootL f l % P f = (zL f l * zL f l) % P f := root_sq h.has.1 h.has.2
theorem OpenOk.vsq {f : Int} {l : List Int} (h : OpenOk f l) : invRL f l % P f = (zvL f l * zvL f l) % P f := by
  have hr := h.1.rt.inv
  have hs := (h.rt.sq h.1.pos.1).inv
  have e1 : (invRL f l * (rootL f l * (zvL f l * zvL f l))) % P f = (invRL f l * 1) % P f := emod_mul_congr rfl ((emod_mul_congr h.sq rfl).trans hs)
  have e2 : (invRL f l * (rootL f l * (zvL f l * zvL f l))) % P f = (1 * (zvL f l * zvL f l)) % P f := by
    rw [← Int.mul_assoc]
    exact emod_mul_congr (by rw [Int.mul_comm]; exact hr) rfl
  rw [Int.mul_one] at e1
  rw [Int.one_mul] at e2
  exact e1.symm.trans e2
def ovL (f : Int) (l : List Int) : List Int := tab l.length fun i => RS (ovF (zL f l) l.length (lf l) i) (P f)
def obL (f : Int) (l : List Int) : List Int := tab l.length fun j => RS (obF (zvL f l) l.length (lf l) j * mPower f l.length (-1)) (P f)
theorem ovL_len (f : Int) (l : List Int) : (ovL f l).length = l.length := tab_len _ _
theorem obL_len (f : Int) (l : List Int) : (obL f l).length = l.length := tab_len _ _
def prF (f : Int) (A : Nat → Int) : Nat → Int
  | 0 => 1
  | n + 1 => RS (prF f A n * A n) (P f)
theorem prF_bd {f : Int} (h0 : 0 ≤ f) (h8 : f ≤ 8) (A : Nat → Int) (n : Nat) : 0 ≤ prF f A n ∧ prF f A n < P f := by
  have hp := P_bd h0 h8
  cases n with
  | zero => exact ⟨by show (0 : Int) ≤ 1; omega, by show (1 : Int) < P f; omega⟩
  | succ n => exact RS_bd (by omega)
def nmL (f : Int) (l : List Int) : Int := prF f (lf (ovL f l)) l.length
/-- An automorphism by an odd exponent b below 2 n. -/
def autL (f : Int) (l : List Int) (b : Nat) : List Int := tab l.length fun t => RS (sgF l.length (lf l) (t * b ^ (l.length - 1))) (P f)
theorem autL_len (f : Int) (l : List Int) (b : Nat) : (autL f l b).length = l.length := tab_len _ _
/-- Squaring and multiplying. -/
def sqS (f : Int) (o x : List Int) (n : Nat) : List Int :=
  if n = 0 then o else sqS f (if n % 2 = 1 then twiL f o x else o) (twiL f x x) (n / 2)
  termination_by n
  decreasing_by omega
theorem sqS_zero (f : Int) (o x : List Int) : sqS f o x 0 = o := by rw [sqS, if_pos rfl]
theorem sqS_odd (f : Int) (o x : List Int) {n : Nat} (h : n % 2 = 1) : sqS f o x n = sqS f (twiL f o x) (twiL f x x) (n / 2) := by rw [sqS, if_neg (by omega), if_pos h]
theorem sqS_even (f : Int) (o x : List Int) {n : Nat} (h0 : 0 < n) (h : n % 2 ≠ 1) : sqS f o x n = sqS f o (twiL f x x) (n / 2) := by rw [sqS, if_neg (by omega), if_neg h]
theorem twiL_len (f : Int) (a b : List Int) : (twiL f a b).length = a.length := tab_len _ _
open Classical in
noncomputable def mRingOne (f n : Int) : List Int := if 0 ≤ mLog n ∧ mLog n ≤ T f then oneL n.toNat else []
open Classical in
noncomputable def mRingPower0 (f : Int) (l : List Int) (e : Int) : List Int := if VecOk f l ∧ 0 ≤ e ∧ e ≤ 1000000 then sqS f (oneL l.length) l e.toNat else []
open Classical in
noncomputable def mRingPower1 (f : Int) (l : List Int) (e : Int) : Bool := decide (VecOk f l ∧ 0 ≤ e ∧ e ≤ 1000000)
/-- An exponent, reduced. -/
def expN (n : Nat) (g : Int) : Nat := turnN (2 * n) g
open Classical in
noncomputable def mAutomorph (f : Int) (l : List Int) (g : Int) : List Int := if VecOk f l ∧ g % 2 ≠ 0 then autL f l (expN l.length g) else []
open Classical in
noncomputable def mOddValues (f : Int) (l : List Int) : List Int := if OpenOk f l then ovL f l else []
open Classical in
noncomputable def mOddBack (f : Int) (l : List Int) : List Int := if OpenOk f l then obL f l else []
open Classical in
noncomputable def mNorm (f : Int) (l : List Int) : Int := if OpenOk f l then nmL f l else -1
/-- Powers of a number, reduced. -/
def pwL (f a : Int) (n : Nat) : List Int := tab n fun j => a ^ j % P f
theorem ft_root {p w w2 : Int} (h : w % p = w2 % p) {n : Nat} {A B : Nat → Int} (hA : ∀ j, j < n → A j % p = B j % p) (i : Nat) : ftF w n A i % p = ftF w2 n B i % p :=
  sumN_mod fun j hj => emod_mul_congr (hA j hj) (pow_mod_congr _ h)
theorem VecOk.ptw {f : Int} {l m : List Int} (h : VecOk f l) : VecOk f (ptwL f l m) := h.tab rfl _ fun _ _ => RS_bd (P_pos h.f08.1 h.f08.2)
theorem ptwL_len (f : Int) (a b : List Int) : (ptwL f a b).length = a.length := tab_len _ _
/-- The values at the odd powers are the transform of the weighted vector. -/
theorem ov_by_fwd {f : Int} {l : List Int} (h : OpenOk f l) : fwdL f (ptwL f l (pwL f (zL f l) l.length)) = ovL f l := by
  refine list_ext (by rw [fwdL_len, ptwL_len, ovL_len]) fun i hi => ?_
  rw [fwdL_len, ptwL_len] at hi
  rw [lf_fwdL (by rw [ptwL_len]; exact hi), rootL_len (ptwL_len _ _ _), ptwL_len]
  unfold ovL
  rw [lf_tab, if_pos hi, ov_ft]
  refine ft_root h.sq (fun j hj => ?_) i
  unfold ptwL
  rw [lf_tab, if_pos hj]
  show RS _ _ % _ = _
  unfold RS pwL
  rw [Int.emod_emod_of_dvd _ (Int.dvd_refl _), lf_tab, if_pos hj]
  exact emod_mul_congr rfl (Int.emod_emod_of_dvd _ (Int.dvd_refl _))
/-- The way back is a transform back that is weighted by the root's inverse. -/
theorem ob_by_bwd {f : Int} {l : List Int} (h : OpenOk f l) : ptwL f (bwdL f l) (pwL f (zvL f l) l.length) = obL f l := by
  refine list_ext (by rw [ptwL_len, bwdL_len, obL_len]) fun j hj => ?_
  rw [ptwL_len, bwdL_len] at hj
  unfold ptwL obL
  rw [lf_tab, if_pos (by rw [bwdL_len]; exact hj), lf_tab, if_pos hj, lf_bwdL hj, ob_ft]
  unfold RS pwL
  rw [lf_tab, if_pos hj]
  have e1 : ftF (invRL f l) l.length (lf l) j % P f = ftF (zvL f l * zvL f l) l.length (lf l) j % P f := ft_root h.vsq (fun _ _ => rfl) j
  have e2 : ftF (zvL f l * zvL f l) l.length (lf l) j * zvL f l ^ j * mPower f l.length (-1) = ftF (zvL f l * zvL f l) l.length (lf l) j * mPower f l.length (-1) * zvL f l ^ j := by
    simp only [Int.mul_comm, Int.mul_left_comm]
  rw [e2]
  exact emod_mul_congr ((Int.emod_emod_of_dvd _ (Int.dvd_refl _)).trans (emod_mul_congr e1 rfl)) (Int.emod_emod_of_dvd _ (Int.dvd_refl _))
end Go.Proofs.YtoonpnfhcmghmaaDoor
namespace Go.Proofs.YtoonpnfhcmghmaaDoor
open Go.RowKit
set_option maxRecDepth 100000 in
set_option maxHeartbeats 1600000 in
theorem sRingOne_on (f : Int) (n k : Nat) (w : World) (hn0 : 0 < n) (hn5 : n ≤ 512) (hl : mLog n = k) (hk : (k : Int) ≤ T f) : Calls Tryd.prog 33 #[.int .i64 f, .int .i64 n] w (ListL w (oneL n)) := by
  obtain ⟨i0, hi, hz0, hz1, hz2⟩ := info_parts info3
  have HI := Lib.hid hi
  have HZ0 := Lib.hid hz0
  have HZ1 := Lib.hid hz1
  have HZ2 := Lib.hid hz2
  clear hi hz0 hz1 hz2
  have d0 : decide ((k : Int) < 0) = false := decide_eq_false (by omega)
  have d1 : decide (T f < (k : Int)) = false := decide_eq_false (by omega)
  have HL := Lib.hid hl
  have HO1 : Hid ((w.alloc (.cells #[.int .i64 1] 3)).ownsRow w.heap.size 3 1 (.slice (some ⟨w.heap.size, 0, none⟩) 1 1) 1 (xsF (fun j => if j = 0 then (1 : Int) else 0) 1)) := Lib.hid (own_new w (.int .i64 1) 3)
  clear hl
  go_enter Tryd.func33, Tryd.ntmps33
  go_wp2_with fail
  refine (sLogOf n w).mono ?_
  rintro e w' ⟨rfl, rfl⟩
  rw [HL.out]
  go_wp2_with fail
  refine (sTwoPower f w).mono ?_
  rintro e w' ⟨rfl, rfl⟩
  go_wp2_with fail
  go_loopw [6, 7] (fun v i wr => ∃ k : Nat, i = .int .i64 k ∧ 1 ≤ k ∧ k ≤ n ∧ wr.ownsRow w.heap.size 3 1 v k (xsF (fun j => if j = 0 then (1 : Int) else 0) k) ∧ Below w.heap.size w wr) (fun _ i _ => n - (intOf i).toNat)
  case atStart => exact ⟨1, rfl, by omega, by omega, HO1.out, (Below.refl _ _).alloc (Nat.le_refl _) _⟩
  case round =>
    clear HO1
    obtain ⟨k, rfl, hk1, hk, hown, hnx⟩ := hrel
    have hs := hnx.size
    by_cases h1 : k < n
    · have hd1 : decide ((k : Int) < n) = true := decide_eq_true (by omega)
      have HZ : Hid ((if k = 0 then (1 : Int) else 0) = 0) := Lib.hid (if_neg (by omega))
      go_wp2_with (at_builtin; refine wpList_append_own _ rfl _ _ 24 rfl w.heap.size 3 i0 (.int .i64 0) 1 8 Tryd.underlying24 HI.out HZ0.out HZ1.out HZ2.out rfl (by decide) _ _ _ rfl (hown.alloc _) ⟨wr.heap.size, 0, none⟩ 1 1 [.int .i64 0] rfl rfl ?c1 ?c2 ?c3 ?c4 ?c5 ?_)
      case c1 => exact cell_one_new _ _ _
      case c2 => intro u hu; simp at hu; subst hu; rfl
      case c3 => unfold maxLen; omega
      case c4 => omega
      case c5 => simp; omega
      intro v' w1 hown' hgrow _
      have hbel : Below w.heap.size w w1 := (hnx.alloc hs _).grown hgrow (by simp; omega) (own_ge hown)
      have hown2 : w1.ownsRow w.heap.size 3 1 v' (k + 1) (xsF (fun j => if j = 0 then (1 : Int) else 0) (k + 1)) := by
        rw [← xsF_succ, HZ.out]; exact hown'
      clear hgrow hown hown'
      go_wp2
      go_roundw
      case rel => exact ⟨k + 1, by go_num, by omega, by omega, hown2, hbel⟩
      case measure => simp [intOf]; omega
    · have hd1 : decide ((k : Int) < n) = false := decide_eq_false (by omega)
      obtain rfl : k = n := by omega
      have HO := Lib.hid (owns_to (w := w) (l := oneL k) hown (by unfold oneL; rw [tab_len]) (fun j hj => by unfold oneL; rw [lf_tab, if_pos hj]) hnx)
      clear hown
      go_wp2
      go_ret
      exact HO.out.list
theorem sRingOne (f n : Int) (w : World) : Calls Tryd.prog 33 #[.int .i64 f, .int .i64 n] w (ListL w (mRingOne f n)) := by
  rcases log_cases n with ⟨k, hk, rfl, hl⟩ | ⟨_, hl⟩
  · have e : (2 : Int) ^ k = ((2 ^ k : Nat) : Int) := by rw [Int.natCast_pow]; rfl
    by_cases hT : (k : Int) ≤ T f
    · have hm : mRingOne f (2 ^ k) = oneL (2 ^ k) := by
        unfold mRingOne
        rw [if_pos ⟨by omega, by omega⟩, e, Int.toNat_natCast]
      rw [hm, e]
      have : 2 ^ k ≤ 2 ^ 9 := Nat.pow_le_pow_right (by omega) hk
      exact sRingOne_on f (2 ^ k) k w (Nat.pow_pos (by omega)) (by omega) (by rw [← e]; exact hl) hT
    · have hm : mRingOne f (2 ^ k) = [] := by
        unfold mRingOne
        rw [if_neg (fun h => hT (by have := h.2; omega))]
      rw [hm, e]
      have HL : Hid (mLog ((2 ^ k : Nat) : Int) = k) := Lib.hid (by rw [← e]; exact hl)
      have d0 : decide ((k : Int) < 0) = false := decide_eq_false (by omega)
      have d1 : decide (T f < (k : Int)) = true := decide_eq_true (by omega)
      clear hl hm
      generalize ((2 ^ k : Nat) : Int) = n at *
      go_enter Tryd.func33, Tryd.ntmps33
      go_wp2_with fail
      refine (sLogOf n w).mono ?_
      rintro e w' ⟨rfl, rfl⟩
      rw [HL.out]
      go_wp2_with fail
      refine (sTwoPower f w).mono ?_
      rintro e w' ⟨rfl, rfl⟩
      go_wp2
      go_ret
      exact ⟨none, 0, rfl, .inl rfl, Below.refl _ _⟩
  · have hm : mRingOne f n = [] := by
      unfold mRingOne
      rw [if_neg (fun h => by have := h.1; omega)]
    rw [hm]
    have HL := Lib.hid hl
    clear hl hm
    go_enter Tryd.func33, Tryd.ntmps33
    go_wp2_with fail
    refine (sLogOf n w).mono ?_
    rintro e w' ⟨rfl, rfl⟩
    rw [HL.out]
    go_wp2
    go_ret
    exact ⟨none, 0, rfl, .inl rfl, Below.refl _ _⟩
theorem vec_ring {f : Int} {l : List Int} (h : VecOk f l) : mRingOne f l.length = oneL l.length := by
  unfold mRingOne
  rw [if_pos h.1, Int.toNat_natCast]
theorem VecOk.one8 {f : Int} {l : List Int} (h : VecOk f l) : VecOk f (oneL l.length) := h.tab rfl _ fun _ _ => by
  have := P_bd h.f08.1 h.f08.2
  split <;> omega
theorem VecOk.twi8 {f : Int} {l m : List Int} (h : VecOk f l) : VecOk f (twiL f l m) := h.tab rfl _ fun _ _ => RS_bd (P_pos h.f08.1 h.f08.2)
/-- What a round of squaring keeps. -/
def RPow (f : Int) (N : Nat) (R O X : List Int) (k : Int) : Prop := (VecOk f O ∧ VecOk f X ∧ O.length = N ∧ X.length = N) ∧ sqS f O X k.toNat = R
set_option maxRecDepth 100000 in
set_option maxHeartbeats 1600000 in
theorem sRingPower_on (f e : Int) (a : Option Addr) (l : List Int) (cap : Nat) (w : World) (hn : l.length ≤ 1048576) (hs : Src w a l.length (lf l)) (h : VecOk f l) (e0 : 0 ≤ e) (e1 : e ≤ 1000000) :
    Calls Tryd.prog 48 #[.int .i64 f, .slice a l.length cap, .int .i64 e] w (ListLB w (sqS f (oneL l.length) l e.toNat) true) := by
  have HV : Hid (Calls Tryd.prog 14 #[.int .i64 f, .slice a l.length cap] w (SameB w true)) := Lib.hid (by have := sVectorOk f a l cap w hn hs; rwa [vok_iff.2 h] at this)
  have HIN := Lib.hid (in_yes e 0 1000000 w e0 e1)
  have HO : Hid (Calls Tryd.prog 33 #[.int .i64 f, .int .i64 l.length] w (ListL w (oneL l.length))) := Lib.hid (by have := sRingOne f l.length w; rwa [vec_ring h] at this)
  have HC : Hid (∀ W, Below w.heap.size w W → Calls Tryd.prog 78 #[.slice a l.length cap] W (fun e' W' => ∃ a2 c2, e' = .returned (.slice a2 l.length c2) ∧ Src W' a2 l.length (lf l) ∧ Below W.heap.size W W')) := Lib.hid fun W hb => (copy_c a l.length cap (lf l) W hn (hs.keep hb)).mono fun e' W' ⟨v, he, ho, hb2⟩ => by
    obtain ⟨a2, c2, rfl, hs2⟩ := src_of_owns ho
    exact ⟨a2, c2, he, hs2, hb2⟩
  have HS : Hid (RPow f l.length (sqS f (oneL l.length) l e.toNat) (oneL l.length) l e) := Lib.hid ⟨⟨h.one8, h, oneL_len _, rfl⟩, rfl⟩
  have HL1 : Hid ((oneL l.length).length = l.length) := Lib.hid (oneL_len _)
  clear hs h
  generalize sqS f (oneL l.length) l e.toNat = R at HS ⊢
  go_enter Tryd.func48, Tryd.ntmps48
  go_wp2_with fail
  refine HV.out.mono ?_
  rintro e w' ⟨rfl, rfl⟩
  go_wp2_with fail
  refine HIN.out.mono ?_
  rintro e w' ⟨rfl, rfl⟩
  go_wp2_with fail
  refine HO.out.mono ?_
  rintro e w1 ⟨ao, co, rfl, so, b1⟩
  have HSO := Lib.hid so
  clear so
  go_wp2_with fail
  refine (HC.out w1 b1).mono ?_
  rintro e w2 ⟨ax, cx, rfl, sx, b2⟩
  have HSO2 := Lib.hid (HSO.out.keep b2)
  have HSX := Lib.hid sx
  have b3 := below_up b1 b2 b1.size
  clear sx HSO HV HIN HO HC HL1
  generalize oneL l.length = O1 at *
  go_wp2_with fail
  go_loopw [8, 9, 10] (fun o x k wr => ∃ (ao ax : Option Addr) (co cx : Nat) (O X : List Int) (kk : Int), o = .slice ao O.length co ∧ x = .slice ax X.length cx ∧ k = .int .i64 kk ∧ Hid (Src wr ao O.length (lf O)) ∧ Hid (Src wr ax X.length (lf X)) ∧ 0 ≤ kk ∧ kk ≤ 1000000 ∧ Hid (RPow f l.length R O X kk) ∧ Below w.heap.size w wr) (fun _ _ k _ => (intOf k).toNat)
  case atStart => exact ⟨ao, ax, co, cx, O1, l, _, rfl, rfl, rfl, HSO2, HSX, e0, e1, HS, b3⟩
  case round =>
    obtain ⟨ao, ax, co, cx, O, X, k, rfl, rfl, rfl, HSO, HSX, k0, k1, HK, hb⟩ := hrel
    by_cases hk : 0 < k
    · have HX2 : Hid (∀ W, Below wr.heap.size wr W → Calls Tryd.prog 35 #[.int .i64 f, .slice ax X.length cx, .slice ax X.length cx] W (ListL W (twiL f X X))) := Lib.hid fun W hb => by
        obtain ⟨⟨hO, hX, h1, h2⟩, _⟩ := HK.out
        have := hX.pos.2
        exact sTwisted_on f ax X cx ax X cx W (by omega) (by omega) (HSX.out.keep hb) (HSX.out.keep hb) ⟨rfl, hX, hX⟩
      by_cases h2 : k % 2 = 1
      · have e2 : (k % 2 == 1) = true := by simp [h2]
        have HT : Hid (Calls Tryd.prog 35 #[.int .i64 f, .slice ao O.length co, .slice ax X.length cx] wr (ListL wr (twiL f O X))) := Lib.hid (by
          obtain ⟨⟨hO, hX, h1, h2⟩, _⟩ := HK.out
          have := hX.pos.2
          have := hO.pos.2
          exact sTwisted_on f ao O co ax X cx wr (by omega) (by omega) HSO.out HSX.out ⟨h1.trans h2.symm, hO, hX⟩)
        have HN : Hid (RPow f l.length R (twiL f O X) (twiL f X X) (k / 2)) := Lib.hid (by
          obtain ⟨⟨hO, hX, h1, h3⟩, hq⟩ := HK.out
          refine ⟨⟨hO.twi8, hX.twi8, (twiL_len _ _ _).trans h1, (twiL_len _ _ _).trans h3⟩, ?_⟩
          rw [← hq, sqS_odd f O X (n := k.toNat) (by omega)]
          congr 1
          omega)
        clear h2
        go_wp2_with fail
        refine HT.out.mono ?_
        rintro e w4 ⟨a4, c4, rfl, s4, b4⟩
        have HS4 := Lib.hid s4
        clear s4
        go_wp2_with fail
        refine (HX2.out w4 b4).mono ?_
        rintro e w5 ⟨a5, c5, rfl, s5, b5⟩
        have HS5 := Lib.hid s5
        have HS6 := Lib.hid (HS4.out.keep b5)
        have hb2 := below_up (below_up hb b4 hb.size) b5 (below_up hb b4 hb.size).size
        clear s5 HS4 HT HX2 b4 b5 hb HK HSO HSX
        go_wp2
        go_roundw
        case rel => exact ⟨a4, a5, c4, c5, _, _, _, rfl, rfl, rfl, HS6, HS5, by omega, by omega, HN, hb2⟩
        case measure => simp [intOf] <;> omega
      · have e2 : (k % 2 == 1) = false := by simp [h2]
        have HN : Hid (RPow f l.length R O (twiL f X X) (k / 2)) := Lib.hid (by
          obtain ⟨⟨hO, hX, h1, h3⟩, hq⟩ := HK.out
          refine ⟨⟨hO, hX.twi8, h1, (twiL_len _ _ _).trans h3⟩, ?_⟩
          rw [← hq, sqS_even f O X (n := k.toNat) (by omega) (by omega)]
          congr 1
          omega)
        clear h2
        go_wp2_with fail
        refine (HX2.out wr (Below.refl _ _)).mono ?_
        rintro e w5 ⟨a5, c5, rfl, s5, b5⟩
        have HS5 := Lib.hid s5
        have HS6 := Lib.hid (HSO.out.keep b5)
        have hb2 := below_up hb b5 hb.size
        clear s5 HX2 b5 hb HK HSO HSX
        go_wp2
        go_roundw
        case rel => exact ⟨ao, a5, co, c5, _, _, _, rfl, rfl, rfl, HS6, HS5, by omega, by omega, HN, hb2⟩
        case measure => simp [intOf] <;> omega
    · obtain rfl : k = 0 := by omega
      have HE : Hid (ListLB w R true (.returned (.tuple #[.slice ao O.length co, .bool true])) wr) := Lib.hid (by
        have hq := HK.out.2
        rw [Int.toNat_zero, sqS_zero] at hq
        rw [← hq]
        exact ⟨ao, co, rfl, HSO.out, hb⟩)
      clear HK HSO HSX hb
      go_wp2
      go_ret2
      exact HE.out
theorem sRingPower (f : Int) (a : Option Addr) (l : List Int) (cap : Nat) (e : Int) (w : World) (hn : l.length ≤ 1048576) (hs : Src w a l.length (lf l)) :
    Calls Tryd.prog 48 #[.int .i64 f, .slice a l.length cap, .int .i64 e] w (ListLB w (mRingPower0 f l e) (mRingPower1 f l e)) := by
  by_cases h : VecOk f l
  · by_cases he : 0 ≤ e ∧ e ≤ 1000000
    · have h0 : mRingPower0 f l e = sqS f (oneL l.length) l e.toNat := by unfold mRingPower0; rw [if_pos ⟨h, he⟩]
      have h1 : mRingPower1 f l e = true := by simp only [mRingPower1, decide_eq_true_eq]; exact ⟨h, he⟩
      rw [h0, h1]
      exact sRingPower_on f e a l cap w hn hs h he.1 he.2
    · have h0 : mRingPower0 f l e = [] := by unfold mRingPower0; rw [if_neg fun x => he x.2]
      have h1 : mRingPower1 f l e = false := by simp only [mRingPower1, decide_eq_false_iff_not]; exact fun x => he x.2
      rw [h0, h1]
      have HV : Hid (Calls Tryd.prog 14 #[.int .i64 f, .slice a l.length cap] w (SameB w true)) := Lib.hid (by have := sVectorOk f a l cap w hn hs; rwa [vok_iff.2 h] at this)
      have HIN := Lib.hid (in_no e 0 1000000 w (by omega))
      clear hs h he h0 h1
      go_enter Tryd.func48, Tryd.ntmps48
      go_wp2_with fail
      refine HV.out.mono ?_
      rintro e w' ⟨rfl, rfl⟩
      go_wp2_with fail
      refine HIN.out.mono ?_
      rintro e w' ⟨rfl, rfl⟩
      go_wp2
      go_ret2
      exact ⟨none, 0, rfl, .inl rfl, Below.refl _ _⟩
  · have h0 : mRingPower0 f l e = [] := by unfold mRingPower0; rw [if_neg fun x => h x.1]
    have h1 : mRingPower1 f l e = false := by simp only [mRingPower1, decide_eq_false_iff_not]; exact fun x => h x.1
    rw [h0, h1]
    have HV : Hid (Calls Tryd.prog 14 #[.int .i64 f, .slice a l.length cap] w (SameB w false)) := Lib.hid (by have := sVectorOk f a l cap w hn hs; rwa [vok_not.2 h] at this)
    clear hs h h0 h1
    go_enter Tryd.func48, Tryd.ntmps48
    go_wp2_with fail
    refine HV.out.mono ?_
    rintro e w' ⟨rfl, rfl⟩
    go_wp2
    go_ret2
    exact ⟨none, 0, rfl, .inl rfl, Below.refl _ _⟩
end Go.Proofs.YtoonpnfhcmghmaaDoor
namespace Go.Proofs.YtoonpnfhcmghmaaDoor
open Mth
theorem expN_lt {n : Nat} (hn : 0 < n) (g : Int) : expN n g < 2 * n := by
  unfold expN turnN
  have h1 := Int.emod_nonneg g (b := ((2 * n : Nat) : Int)) (by omega)
  have h2 := Int.emod_lt_of_pos g (b := ((2 * n : Nat) : Int)) (by omega)
  omega
theorem expN_odd {n : Nat} (hn : 0 < n) {g : Int} (hg : g % 2 ≠ 0) : expN n g % 2 = 1 := by
  unfold expN turnN
  have h1 := Int.emod_nonneg g (b := ((2 * n : Nat) : Int)) (by omega)
  have h2 : g % ((2 * n : Nat) : Int) % 2 = g % 2 := Int.emod_emod_of_dvd g ⟨(n : Int), by rw [Int.natCast_mul]; rfl⟩
  omega
theorem expN_small {n b : Nat} (h : b < 2 * n) : expN n (b : Int) = b := by
  unfold expN turnN
  rw [Int.emod_eq_of_lt (by omega) (by omega), Int.toNat_natCast]
theorem VecOk.pow2 {f : Int} {l : List Int} (h : VecOk f l) : ∃ k : Nat, l.length = 2 ^ k := by
  obtain ⟨k, _, hn, _, _⟩ := h.log
  exact ⟨k, hn⟩
/-- Where the k-th number lands. -/
def auQ (n b k : Nat) : Nat := if k * b % (2 * n) < n then k * b % (2 * n) else k * b % (2 * n) - n
def auV (f : Int) (n b k : Nat) (A : Nat → Int) : Int := if k * b % (2 * n) < n then A k else RS (0 - A k) (P f)
/-- After k numbers have landed. -/
def auP (f : Int) (n b k : Nat) (A X : Nat → Int) (t : Nat) : Int := if t * b ^ (n - 1) % n < k then RS (sgF n A (t * b ^ (n - 1))) (P f) else X t
theorem auQ_mod {n b k : Nat} (hn : 0 < n) : auQ n b k = k * b % n := by
  have h1 := Nat.mod_lt (k * b) (y := 2 * n) (by omega)
  have h2 : k * b % (2 * n) % n = k * b % n := Nat.mod_mul_left_mod (k * b) 2 n
  unfold auQ
  rw [← h2]
  generalize k * b % (2 * n) = r at *
  split
  · rw [Nat.mod_eq_of_lt (by assumption)]
  · rw [Nat.mod_eq_sub_mod (by omega), Nat.mod_eq_of_lt (by omega)]
theorem au_inv {n b : Nat} (hn : ∃ k, n = 2 ^ k) (hb : b % 2 = 1) : b * b ^ (n - 1) % (2 * n) = 1 ∧ b ^ (n - 1) % 2 = 1 := by
  obtain ⟨k, rfl⟩ := hn
  have h := mul_self_inv (b := b) (k := k) hb
  refine ⟨h, ?_⟩
  have h2 : b * b ^ (2 ^ k - 1) % 2 = 1 := by
    have := Nat.mod_mul_right_mod (b * b ^ (2 ^ k - 1)) 2 (2 ^ k)
    rw [h] at this
    omega
  generalize b ^ (2 ^ k - 1) = c at *
  rcases Nat.mod_two_eq_zero_or_one c with h0 | h0
  · rw [Nat.mul_mod, h0, Nat.mul_zero] at h2
    omega
  · exact h0
theorem au_at {n b k t : Nat} (hn : 0 < n) (h2 : ∃ k, n = 2 ^ k) (hb : b % 2 = 1) (hk : k < n) (ht : t < n) : t * b ^ (n - 1) % n = k ↔ t = auQ n b k := by
  have hc := (au_inv h2 hb).1
  have hcn : b * b ^ (n - 1) % n = 1 % n := by
    rw [← Nat.mod_mul_left_mod (b * b ^ (n - 1)) 2 n, hc]
  generalize b ^ (n - 1) = c at *
  rw [auQ_mod hn]
  constructor
  · rintro rfl
    rw [Nat.mod_mul_mod, Nat.mul_assoc, Nat.mul_comm c b, Nat.mul_mod, hcn, ← Nat.mul_mod, Nat.mul_one, Nat.mod_eq_of_lt ht]
  · rintro rfl
    rw [Nat.mod_mul_mod, Nat.mul_assoc, Nat.mul_mod, hcn, ← Nat.mul_mod, Nat.mul_one, Nat.mod_eq_of_lt hk]
theorem au_val {f : Int} {n b k : Nat} {A : Nat → Int} (hn : 0 < n) (h2 : ∃ k, n = 2 ^ k) (hb : b % 2 = 1) (hk : k < n) (hA : 0 ≤ A k ∧ A k < P f) : RS (sgF n A (auQ n b k * b ^ (n - 1))) (P f) = auV f n b k A := by
  obtain ⟨hc, hc2⟩ := au_inv h2 hb
  generalize b ^ (n - 1) = c at *
  have hi := sg_image hn hc A hk
  unfold auQ auV
  have hlt := Nat.mod_lt (k * b) (y := 2 * n) (by omega)
  generalize k * b % (2 * n) = r at *
  by_cases h : r < n
  · rw [if_pos h, if_pos h, hi]
    exact RS_self hA.1 hA.2
  · rw [if_neg h, if_neg h]
    obtain ⟨s, rfl⟩ : ∃ s, r = s + n := ⟨r - n, by omega⟩
    have e1 : (s + n) * c = s * c + n + 2 * n * (c / 2) := by
      have h1 : c = 2 * (c / 2) + 1 := by omega
      have h2 : n * c = 2 * n * (c / 2) + n := by
        conv => lhs; rw [h1, Nat.mul_succ, ← Nat.mul_assoc, Nat.mul_comm n 2]
      rw [Nat.add_mul, h2]
      omega
    rw [e1, sg_more, sg_turn hn] at hi
    rw [Nat.add_sub_cancel, show sgF n A (s * c) = 0 - A k by omega]
theorem au_start (f : Int) (n b : Nat) (A X : Nat → Int) (t : Nat) : auP f n b 0 A X t = X t := if_neg (by omega)
theorem au_end (f : Int) {n : Nat} (hn : 0 < n) (b : Nat) (A X : Nat → Int) (t : Nat) : auP f n b n A X t = RS (sgF n A (t * b ^ (n - 1))) (P f) := if_pos (Nat.mod_lt _ hn)
theorem au_step {f : Int} {n b k : Nat} {A : Nat → Int} (X : Nat → Int) (hn : 0 < n) (h2 : ∃ k, n = 2 ^ k) (hb : b % 2 = 1) (hk : k < n) (hA : 0 ≤ A k ∧ A k < P f) {t : Nat} (ht : t < n) :
    (if t = auQ n b k then auV f n b k A else auP f n b k A X t) = auP f n b (k + 1) A X t := by
  have hat := au_at hn h2 hb hk ht
  by_cases h : t = auQ n b k
  · rw [if_pos h]
    unfold auP
    rw [if_pos (by have := hat.2 h; omega), h, au_val hn h2 hb hk hA]
  · rw [if_neg h]
    have h3 : t * b ^ (n - 1) % n ≠ k := fun e => h (hat.1 e)
    unfold auP
    by_cases h4 : t * b ^ (n - 1) % n < k
    · rw [if_pos h4, if_pos (by omega)]
    · rw [if_neg h4, if_neg (by omega)]
theorem VecOk.aut {f : Int} {l : List Int} (h : VecOk f l) (b : Nat) : VecOk f (autL f l b) := h.tab rfl _ fun _ _ => RS_bd (P_pos h.f08.1 h.f08.2)
theorem VecOk.twi {f : Int} {l m : List Int} (h : VecOk f l) : VecOk f (twiL f l m) := h.tab rfl _ fun _ _ => RS_bd (P_pos h.f08.1 h.f08.2)
theorem VecOk.ov {f : Int} {l : List Int} (h : VecOk f l) : VecOk f (ovL f l) := h.tab rfl _ fun _ _ => RS_bd (P_pos h.f08.1 h.f08.2)
theorem VecOk.one {f : Int} {l : List Int} (h : VecOk f l) : VecOk f (oneL l.length) := h.tab rfl _ fun _ _ => by
  have := P_bd h.f08.1 h.f08.2
  split <;> omega
theorem sg_mod_congr {p : Int} {n : Nat} (hn : 0 < n) {A B : Nat → Int} (h : ∀ j, j < n → A j % p = B j % p) (e : Nat) : sgF n A e % p = sgF n B e % p := by
  have hr : e % (2 * n) < 2 * n := Nat.mod_lt _ (by omega)
  unfold sgF
  split
  · exact h _ (by assumption)
  · have := emod_sub_congr (p := p) (a := 0) (b := 0) rfl (h (e % (2 * n) - n) (by omega))
    rwa [Int.zero_sub, Int.zero_sub] at this
theorem ne_mod {p : Int} {n : Nat} (hn : 0 < n) {A B C D : Nat → Int} (h : ∀ j, j < n → A j % p = C j % p) (h2 : ∀ j, j < n → B j % p = D j % p) (e : Nat) : neF n A B e % p = neF n C D e % p :=
  sumN_mod fun _ _ => emod_mul_congr (sg_mod_congr hn h _) (sg_mod_congr hn h2 _)
theorem ne_turn {n : Nat} (hn : 0 < n) (A B : Nat → Int) (e : Nat) : neF n A B (e + n) = - neF n A B e := by
  unfold neF
  have : ∀ m, sumN (fun j => sgF n A j * sgF n B (e + n + j * (2 * n - 1))) m = - sumN (fun j => sgF n A j * sgF n B (e + j * (2 * n - 1))) m := fun m => by
    have h : ∀ j, sgF n A j * sgF n B (e + n + j * (2 * n - 1)) = (-1) * (sgF n A j * sgF n B (e + j * (2 * n - 1))) := fun j => by
      rw [show e + n + j * (2 * n - 1) = e + j * (2 * n - 1) + n by omega, sg_turn hn, Int.mul_neg, Int.neg_mul, Int.one_mul]
    rw [sumN_congr (fun j _ => h j), sumN_mul, Int.neg_mul, Int.one_mul]
  exact this n
theorem ne_more {n : Nat} (A B : Nat → Int) (e k : Nat) : neF n A B (e + 2 * n * k) = neF n A B e := by
  unfold neF
  refine sumN_congr fun j _ => ?_
  rw [show e + 2 * n * k + j * (2 * n - 1) = e + j * (2 * n - 1) + 2 * n * k by omega, sg_more]
theorem sg_ne {n : Nat} (hn : 0 < n) (A B : Nat → Int) (e : Nat) : sgF n (neF n A B) e = neF n A B e := by
  have hr : e % (2 * n) < 2 * n := Nat.mod_lt _ (by omega)
  have h0 : neF n A B e = neF n A B (e % (2 * n)) := by
    conv => lhs; rw [← Nat.mod_add_div e (2 * n)]
    exact ne_more A B _ _
  rw [h0]
  unfold sgF
  generalize e % (2 * n) = r at *
  split
  · rfl
  · obtain ⟨s, rfl⟩ : ∃ s, r = s + n := ⟨r - n, by omega⟩
    rw [Nat.add_sub_cancel, ne_turn hn]
/-- What FnAutomorph asks. -/
theorem aut_twi {f : Int} {a b : List Int} (h : TwoOk f a b) {g : Nat} (hg : g % 2 = 1) : autL f (twiL f a b) g = twiL f (autL f a g) (autL f b g) := by
  have hn := h.2.1.pos.1
  obtain ⟨hc, hc2⟩ := au_inv h.2.1.pow2 hg
  refine list_ext (by rw [autL_len, twiL_len, twiL_len, autL_len]) fun t ht => ?_
  rw [autL_len, twiL_len] at ht
  unfold autL
  rw [twiL_len, ← h.1]
  unfold twiL
  rw [lf_tab, if_pos ht, tab_len, lf_tab, if_pos ht]
  unfold RS
  have e1 : sgF a.length (lf (tab a.length fun i => twiF a.length (lf a) (lf b) i % P f)) (t * g ^ (a.length - 1)) % P f = neF a.length (lf a) (lf b) (t * g ^ (a.length - 1)) % P f := by
    rw [← sg_ne hn]
    refine sg_mod_congr hn (fun j hj => ?_) _
    rw [lf_tab, if_pos hj, Int.emod_emod_of_dvd _ (Int.dvd_refl _), ne_twi _ _ hj]
  rw [e1]
  rw [← aut_ne hn hc2 hc (C := fun t => sgF a.length (lf a) (t * g ^ (a.length - 1))) (D := fun t => sgF a.length (lf b) (t * g ^ (a.length - 1))) (fun _ _ => rfl) (fun _ _ => rfl) t, ← ne_twi _ _ ht]
  refine ne_mod hn (fun j hj => ?_) (fun j hj => ?_) t
  · rw [lf_tab, if_pos hj, Int.emod_emod_of_dvd _ (Int.dvd_refl _)]
  · rw [lf_tab, if_pos hj, Int.emod_emod_of_dvd _ (Int.dvd_refl _)]
theorem aut_aut {f : Int} {l : List Int} (h : VecOk f l) {g k : Int} (hg : g % 2 ≠ 0) : autL f (autL f l (expN l.length g)) (expN l.length k) = autL f l (expN l.length (g * k)) := by
  have hn := h.pos.1
  have ho := expN_odd hn hg
  obtain ⟨_, hc2⟩ := au_inv h.pow2 ho
  refine list_ext (by rw [autL_len, autL_len, autL_len]) fun t ht => ?_
  rw [autL_len, autL_len] at ht
  have e0 : autL f (autL f l (expN l.length g)) (expN l.length k) = tab l.length fun t => RS (sgF l.length (lf (autL f l (expN l.length g))) (t * expN l.length k ^ (l.length - 1))) (P f) := by
    generalize hm : autL f l (expN l.length g) = m
    have hml : m.length = l.length := by rw [← hm, autL_len]
    unfold autL
    rw [hml]
  rw [e0]
  conv => rhs; unfold autL
  rw [lf_tab, if_pos ht, lf_tab, if_pos ht]
  unfold RS
  have e1 : sgF l.length (lf (autL f l (expN l.length g))) (t * expN l.length k ^ (l.length - 1)) % P f = sgF l.length (fun t => sgF l.length (lf l) (t * expN l.length g ^ (l.length - 1))) (t * expN l.length k ^ (l.length - 1)) % P f :=
    sg_mod_congr hn (fun j hj => by
      unfold autL
      rw [lf_tab, if_pos hj]
      exact Int.emod_emod_of_dvd _ (Int.dvd_refl _)) _
  rw [e1, sg_aut hn hc2 (fun _ _ => rfl)]
  refine congrArg (· % P f) (sg_congr ?_)
  rw [Nat.mul_assoc, ← Nat.mul_pow]
  have e2 : expN l.length k * expN l.length g % (2 * l.length) = expN l.length (g * k) % (2 * l.length) := by
    unfold expN turnN
    have h1 := Int.emod_nonneg g (b := ((2 * l.length : Nat) : Int)) (by omega)
    have h2 := Int.emod_nonneg k (b := ((2 * l.length : Nat) : Int)) (by omega)
    have h3 := Int.emod_nonneg (g * k) (b := ((2 * l.length : Nat) : Int)) (by omega)
    have h4 : (((k % ((2 * l.length : Nat) : Int)).toNat * (g % ((2 * l.length : Nat) : Int)).toNat % (2 * l.length) : Nat) : Int) = (((g * k) % ((2 * l.length : Nat) : Int)).toNat % (2 * l.length) : Nat) := by
      rw [Int.natCast_emod, Int.natCast_mul, Int.natCast_emod, Int.toNat_of_nonneg h1, Int.toNat_of_nonneg h2, Int.toNat_of_nonneg h3, ← Int.mul_emod, Int.emod_emod_of_dvd _ (Int.dvd_refl _), Int.mul_comm]
    exact Int.ofNat_inj.1 h4
  rw [Nat.mul_mod, Nat.pow_mod, e2, ← Nat.pow_mod, ← Nat.mul_mod]
theorem aut_one {f : Int} {l : List Int} (h : VecOk f l) : autL f l (expN l.length 1) = l := by
  have hn := h.pos.1
  have e1 : expN l.length 1 = 1 := expN_small (b := 1) (by omega)
  rw [e1]
  refine list_ext (autL_len _ _ _) fun t ht => ?_
  rw [autL_len] at ht
  unfold autL
  rw [lf_tab, if_pos ht, Nat.one_pow, Nat.mul_one, sg_low _ ht]
  exact RS_self (h.lt t).1 (h.lt t).2
/-- Values and back. -/
theorem lf_ovL {f : Int} {l : List Int} {i : Nat} (h : i < l.length) : lf (ovL f l) i = ovF (zL f l) l.length (lf l) i % P f := by
  unfold ovL; rw [lf_tab, if_pos h]; rfl
theorem zL_len {f : Int} {a b : List Int} (h : a.length = b.length) : zL f a = zL f b := by unfold zL; rw [h]
theorem zvL_len {f : Int} {a b : List Int} (h : a.length = b.length) : zvL f a = zvL f b := by unfold zvL; rw [h]
theorem ovF_mod {p z : Int} {n : Nat} {A B : Nat → Int} (h : ∀ j, j < n → A j % p = B j % p) (i : Nat) : ovF z n A i % p = ovF z n B i % p := sumN_mod fun j hj => emod_mul_congr (h j hj) rfl
theorem obF_mod {p v : Int} {n : Nat} {A B : Nat → Int} (h : ∀ j, j < n → A j % p = B j % p) (i : Nat) : obF v n A i % p = obF v n B i % p := sumN_mod fun j hj => emod_mul_congr (h j hj) rfl
theorem mod2 (a p : Int) : a % p % p = a % p := Int.emod_emod_of_dvd a (Int.dvd_refl p)
theorem OpenOk.to {f : Int} {l m : List Int} (h : OpenOk f l) (hm : VecOk f m) (hl : m.length = l.length) : OpenOk f m := ⟨hm, by rw [hl]; exact h.2⟩
theorem back_ov {f : Int} {l : List Int} (h : OpenOk f l) : obL f (ovL f l) = l := by
  refine list_ext (by rw [obL_len, ovL_len]) fun j hj => ?_
  rw [obL_len, ovL_len] at hj
  unfold obL
  rw [ovL_len, lf_tab, if_pos hj, zvL_len (ovL_len f l)]
  show (_ * _) % P f = _
  have e1 : obF (zvL f l) l.length (lf (ovL f l)) j % P f = (lf l j * l.length) % P f :=
    (obF_mod (fun i hi => by rw [lf_ovL hi, mod2]) j).trans (ob_ov h.rt (lf l) hj)
  rw [emod_mul_congr e1 rfl, Int.mul_assoc, emod_mul_congr rfl h.1.inv_n, Int.mul_one]
  have := h.1.lt j
  exact Int.emod_eq_of_lt this.1 this.2
theorem ov_prod {f : Int} {a b : List Int} (ha : OpenOk f a) (hab : a.length = b.length) : ovL f (twiL f a b) = ptwL f (ovL f a) (ovL f b) := by
  refine list_ext (by rw [ovL_len, twiL_len, ptwL_len, ovL_len]) fun i hi => ?_
  rw [ovL_len, twiL_len] at hi
  rw [lf_ovL (by rw [twiL_len]; exact hi), twiL_len, zL_len (twiL_len f a b)]
  unfold ptwL
  rw [ovL_len, lf_tab, if_pos hi, lf_ovL hi, lf_ovL (by omega), ← hab, zL_len hab.symm]
  have e1 : ovF (zL f a) a.length (lf (twiL f a b)) i % P f = ovF (zL f a) a.length (twiF a.length (lf a) (lf b)) i % P f :=
    ovF_mod (fun j hj => by unfold twiL; rw [lf_tab, if_pos hj]; exact mod2 _ _) i
  rw [e1, ov_twi ha.rt (lf a) (lf b) i (by omega)]
  exact (emod_mul_congr (mod2 _ _) (mod2 _ _)).symm
theorem ptw_norm {f : Int} {X Y Z : Nat → Int} : ∀ n, (∀ j, j < n → Z j = RS (X j * Y j) (P f)) → 1 % P f = 1 → prF f Z n = RS (prF f X n * prF f Y n) (P f)
  | 0, _, h1 => by show (1 : Int) = (1 * 1) % P f; rw [Int.one_mul, h1]
  | n + 1, h, h1 => by
    have ih := ptw_norm n (fun j hj => h j (by omega)) h1
    show RS (prF f Z n * Z n) (P f) = RS (RS (prF f X n * X n) (P f) * RS (prF f Y n * Y n) (P f)) (P f)
    rw [ih, h n (by omega), RS_mul, RS_mul]
    congr 1
    simp only [Int.mul_assoc, Int.mul_left_comm]
theorem norm_prod {f : Int} {a b : List Int} (ha : OpenOk f a) (hab : a.length = b.length) : nmL f (twiL f a b) = RS (nmL f a * nmL f b) (P f) := by
  have h08 := ha.1.f08
  unfold nmL
  rw [twiL_len, ← hab]
  refine ptw_norm _ (fun j hj => ?_) (one_p h08.1 h08.2)
  rw [ov_prod ha hab]
  unfold ptwL
  rw [ovL_len, lf_tab, if_pos hj]
end Go.Proofs.YtoonpnfhcmghmaaDoor
namespace Go.Proofs.YtoonpnfhcmghmaaDoor
open Go.RowKit
open Classical in
noncomputable def mOpen (f : Int) (l : List Int) : Bool := decide (OpenOk f l)
theorem open_iff {f : Int} {l : List Int} : mOpen f l = true ↔ OpenOk f l := by unfold mOpen; simp
theorem open_not {f : Int} {l : List Int} : mOpen f l = false ↔ ¬ OpenOk f l := by unfold mOpen; simp
end Go.Proofs.YtoonpnfhcmghmaaDoor
namespace Go.Proofs.YtoonpnfhcmghmaaDoor
open Go.RowKit Go.Shelf
attribute [local go_sem] Oper.semAt_some
theorem pws_xs {f r : Int} (h0 : 0 ≤ f) (h8 : f ≤ 8) (hr : 0 ≤ r) (n : Nat) : (pws f r n).map (Value.int .i64) = xsF (lf (pwL f r n)) n := by
  unfold pws xsF
  rw [List.map_map]
  refine List.map_congr_left fun j hj => ?_
  have hj2 : j < n := List.mem_range.1 hj
  show Value.int .i64 (PW (P f) r j) = _
  unfold pwL
  rw [lf_tab, if_pos hj2, PW_pow h0 h8 hr]
theorem own_form {w : World} {base n : Nat} {v : Value} {xs : List Value} (h : w.ownsRow base 3 1 v n xs) (hn : n ≠ 0) : ∃ g c, v = .slice (some ⟨g, 0, none⟩) n c := by
  rcases h.2 with ⟨_, h0⟩ | ⟨g, cap, cur, h, _⟩
  · exact absurd h0 hn
  · exact ⟨g, cap, h⟩
theorem block_same2 {W w1 : World} {tmp : Obj} {row : Option Nat} {Bl B : Nat} {v : Value} (hgrow : (W.alloc tmp).grownBy w1 row) (h1 : B < W.heap.size) (h2 : some B ≠ row) (h3 : B ≠ Bl) : (w1.setCell ⟨Bl, 0, none⟩ v).heap[B]? = W.heap[B]? :=
  (Below.heap_setCell w1 ⟨Bl, 0, none⟩ v B (fun e => h3 e)).trans ((hgrow.block B (by simp; omega) h2).trans (Below.heap_alloc W tmp B h1))
set_option maxRecDepth 100000 in
set_option maxHeartbeats 2000000 in
theorem appendSeq_c (f r : Int) (n Bc Bn Ba : Nat) (w : World) (ht : Tab w) (f0 : 0 ≤ f) (f8 : f ≤ 8) (r0 : 0 ≤ r) (r1 : r < P f) (n9 : n ≤ 512) (w0 : 0 < w.heap.size) (hBc : Bc < w.heap.size) (hBn : Bn < w.heap.size) (hBa : Ba < w.heap.size)
    (cC : w.cell? ⟨Bc, 0, none⟩ = some (.int .i64 n)) (cN : w.cell? ⟨Bn, 0, none⟩ = some (.int .i64 f)) (cA : w.cell? ⟨Ba, 0, none⟩ = some (.int .i64 r)) :
    Calls Tryd.prog 136 #[.slice none 0 0, .func (.func 137) #[] #[.pointer (some ⟨Bc, 0, none⟩), .pointer (some ⟨Bn, 0, none⟩), .pointer (some ⟨Ba, 0, none⟩)]] w (fun e w' => ∃ v, e = .returned v ∧ w'.ownsRow w.heap.size 3 1 v n ((pws f r n).map (Value.int .i64)) ∧ Below w.heap.size w w') := by
  refine (callsIn_wide (n := 6)).1 ?_
  refine callsIn_of_wp_marks Tryd.func136 rfl trivial ?_ rfl
  simp only [Tryd.ntmps136, List.size_toArray, List.length_cons, List.length_nil, Nat.reduceAdd, Nat.reduceSub, Array.replicate_succ, Array.replicate_zero, List.push_toArray, List.append_toArray, List.nil_append, List.cons_append]
  refine wpIn_wide.2 ?_
  go_wp2
  obtain ⟨WL, hWL⟩ : ∃ WL, w.alloc (.cells #[.slice none 0 0] 24) = WL := ⟨_, rfl⟩
  have zL : WL.heap.size = w.heap.size + 1 := by rw [← hWL]; simp
  have xL : Boxed WL w.heap.size 24 (.slice none 0 0) := by rw [← hWL]; exact Boxed.new w 24 (.slice none 0 0)
  have oL : WL.ownsRow w.heap.size 3 1 (.slice none 0 0) 0 [] := World.ownsRow_nil _ _ _ _
  have bL : Below w.heap.size w WL := by rw [← hWL]; exact (Below.refl _ _).alloc (Nat.le_refl _) _
  have tL : Tab WL := ht.below bL
  have cCL : WL.cell? ⟨Bc, 0, none⟩ = some (.int .i64 n) := (bL.cell (p := ⟨Bc, 0, none⟩) hBc).trans cC
  have cNL : WL.cell? ⟨Bn, 0, none⟩ = some (.int .i64 f) := (bL.cell (p := ⟨Bn, 0, none⟩) hBn).trans cN
  have cAL : WL.cell? ⟨Ba, 0, none⟩ = some (.int .i64 r) := (bL.cell (p := ⟨Ba, 0, none⟩) hBa).trans cA
  rw [hWL]
  clear hWL
  obtain ⟨i0, hi, hz0, hz1, hz2⟩ := info_parts info3
  refine (wpIn_wide (n := 6)).1 ?_
  refine wpIn_rangeFunc_ownG (F := Fence.wide) (n := 6) rfl (by omega) (gf := 137) (lb := #[.pointer (some ⟨Bc, 0, none⟩), .pointer (some ⟨Bn, 0, none⟩), .pointer (some ⟨Ba, 0, none⟩)]) rfl trivial (enters_of Tryd.func137 (by kernel_rfl) rfl)
    (powers_stops 5 (by omega) Bc Bn Ba w.heap.size f r n f0 f8 r0 r1 (by omega) w0 WL (by omega) tL (by omega) (by omega) (by omega) cCL cNL cAL)
    (fun h k => ⟨h.1.trans k.1, k.2.1.trans h.2.1, k.2.2.trans h.2.2⟩) (fun W l o o' hl ho hc hw => ⟨belowK_b (w := w) (Nat.le_refl _) W l o o' (by omega) ho hc hw, World.putObj_heap_other (by omega), World.putObj_heap_other (by omega)⟩) (Below.refl _ _) (fun _ => rfl)
    (fun pre W => (∃ v, Boxed W w.heap.size 24 v ∧ W.ownsRow w.heap.size 3 1 v pre.length (pre.map (Value.int .i64)) ∧ True) ∧ Below w.heap.size w W ∧ w.heap.size + 1 ≤ W.heap.size)
    (fun _ _ _ => False)
    (OwnFrom.and (Own.from (holdsRow_own w.heap.size w.heap.size 24 3 1 (fun (pre : List Int) => pre.length) (fun (pre : List Int) => pre.map (Value.int .i64)) (fun _ _ => True)) _) (OwnFrom.and (ownFrom_below (Nat.le_refl _) (by omega)) (fun s A B row hs hg hr => Nat.le_trans hs hg.size)))
    (fun _ _ _ _ _ hs _ _ => hs)
    ⟨⟨_, xL, oL, trivial⟩, bL, by omega⟩
    (fun x => { tmps := #[.slice none 0 0, .func (.func 137) #[] #[.pointer (some ⟨Bc, 0, none⟩), .pointer (some ⟨Bn, 0, none⟩), .pointer (some ⟨Ba, 0, none⟩)], .pointer (some ⟨w.heap.size, 0, none⟩), undef, .slice none 0 0, .int .i64 x, .func (.func 137) #[] #[.pointer (some ⟨Bc, 0, none⟩), .pointer (some ⟨Bn, 0, none⟩), .pointer (some ⟨Ba, 0, none⟩)], .int .i64 x, undef, undef, undef, undef, undef], defers := [] }) ?assign ?body ?done ?stop
  case assign =>
    intro l x W K hK
    gi_wp2
    exact hK
  case body =>
    rintro l pre x W ⟨⟨v, hv, hrow, _⟩, hB, hz⟩ hlt
    have hc := hv.cell
    gi_wp2_with (gi_at_builtin; refine wpListIn_append_own _ rfl _ _ 24 rfl w.heap.size 3 i0 (.int .i64 0) 1 8 Tryd.underlying24 hi hz0 hz1 hz2 rfl (by decide) _ _ _ rfl (hrow.alloc _) ⟨W.heap.size, 0, none⟩ 1 1 [.int .i64 x] rfl rfl (cell_one_new _ _ _) (by simp [Value.oneCell']) (by unfold maxLen; omega) (by omega) (by have := hB.size; simp; omega) ?_; intro v' w1 hown' hgrow _; obtain ⟨g', c', rfl⟩ := own_form hown' (by omega); obtain ⟨hv1, hv2, hr2, hk2, hb2⟩ := hv.appended (by decide) hrow hB.size (by omega) hown' hgrow; have hc1 := hv1.cell; have hf1 := hv1.frozen)
    exact ⟨hk2.from _, ⟨hb2, block_same2 hgrow (by omega) (fun e => by have := own_ge hrow _ e.symm; omega) (by omega), block_same2 hgrow (by omega) (fun e => by have := own_ge hrow _ e.symm; omega) (by omega)⟩, ⟨_, hv2, by simpa using hr2, trivial⟩, hB.trans hb2, Nat.le_trans hz hk2.size⟩
  case done =>
    rintro D ys W hD rfl ⟨⟨v, hv, hrow, _⟩, hB, hz⟩ hK
    rw [pws_len] at hrow
    have hc := hv.cell
    go_wp2
    refine ⟨by simp, .inl ⟨_, _, rfl, run_takeDeferred hK, ?_⟩⟩
    exact ⟨_, results_tmp rfl _ _ _, v, rfl, ownsRow_putObj hrow _ hK rfl, hB.trans (belowK_b (w := w) (Nat.le_refl _) W D _ _ (by omega) hK rfl rfl)⟩
  case stop =>
    rintro D c pre W _ _ h _
    exact h.elim
end Go.Proofs.YtoonpnfhcmghmaaDoor
namespace Go.Proofs.YtoonpnfhcmghmaaDoor
open Mth
theorem P6 : P 6 = 998244353 := by decide
theorem P7 : P 7 = 469762049 := by decide
/-- The product of the primes of the fields 6 and 7. -/
def MM : Int := 468937312667959297
theorem bezout_dvd {a b s t u v : Int} (hb : a * s + b * t = 1) (e : a * u = b * v) : b ∣ u := by
  have h1 : (a * s + b * t) * u = s * (a * u) + b * (t * u) := by
    rw [Int.add_mul]
    congr 1
    · rw [Int.mul_comm a s, Int.mul_assoc]
    · rw [Int.mul_assoc]
  rw [hb, Int.one_mul, e] at h1
  exact ⟨s * v + t * u, h1.trans (by rw [Int.mul_add, ← Int.mul_assoc s b v, Int.mul_comm s b, Int.mul_assoc])⟩
theorem bez67 : (998244353 : Int) * 208783132 + 469762049 * (-443664155) = 1 := by decide
theorem mul67 : (998244353 : Int) * 469762049 = 468937312667959297 := by decide
theorem small_zero {z t : Int} (h : z = 468937312667959297 * t) (h1 : -468937312667959297 < z) (h2 : z < 468937312667959297) : z = 0 := by omega
/-- A number below MM is known by its two residues. -/
theorem crt_unique {x y : Int} (x0 : 0 ≤ x) (x1 : x < MM) (y0 : 0 ≤ y) (y1 : y < MM) (h6 : x % P 6 = y % P 6) (h7 : x % P 7 = y % P 7) : x = y := by
  rw [P6] at h6
  rw [P7] at h7
  unfold MM at x1 y1
  obtain ⟨u, hu⟩ : (998244353 : Int) ∣ x - y := Int.dvd_of_emod_eq_zero (Int.emod_eq_emod_iff_emod_sub_eq_zero.1 h6)
  obtain ⟨v, hv⟩ : (469762049 : Int) ∣ x - y := Int.dvd_of_emod_eq_zero (Int.emod_eq_emod_iff_emod_sub_eq_zero.1 h7)
  obtain ⟨t, ht⟩ := bezout_dvd bez67 (hu.symm.trans hv)
  rw [ht, ← Int.mul_assoc, mul67] at hu
  have := small_zero hu (by clear hu hv ht h6 h7; omega) (by clear hu hv ht h6 h7; omega)
  clear hu hv ht h6 h7
  omega
/-- z is the number of the residues a, b. -/
def IsJoined (a b z : Int) : Prop := 0 ≤ z ∧ z < MM ∧ z % P 6 = a ∧ z % P 7 = b
theorem IsJoined.unique {a b y z : Int} (hy : IsJoined a b y) (hz : IsJoined a b z) : y = z :=
  crt_unique hy.1 hy.2.1 hz.1 hz.2.1 (hy.2.2.1.trans hz.2.2.1.symm) (hy.2.2.2.trans hz.2.2.2.symm)
end Go.Proofs.YtoonpnfhcmghmaaDoor
namespace Go.Proofs.YtoonpnfhcmghmaaDoor
/-- The number of the first n digits, the least first. -/
def dv (D : Nat → Int) (n : Nat) : Int := sumN (fun i => D i * 10 ^ i) n
def Dig (D : Nat → Int) (n : Nat) : Prop := ∀ i, i < n → 0 ≤ D i ∧ D i < 10
/-- Carrying: after i places, what has been written, and what is carried. -/
def Carry (S B : Nat → Int) (i : Nat) (up : Int) : Prop := Dig B i ∧ 0 ≤ up ∧ dv B i + up * 10 ^ i = dv S i
theorem Carry.start (S B : Nat → Int) : Carry S B 0 0 := ⟨fun i hi => by omega, Int.le_refl _, rfl⟩
theorem Carry.step {S B : Nat → Int} {i : Nat} {up : Int} (h : Carry S B i up) (hs : 0 ≤ S i) (hb : B i = (up + S i) % 10) : Carry S B (i + 1) ((up + S i) / 10) := by
  have hu := h.2.1
  refine ⟨fun j hj => ?_, by omega, ?_⟩
  · by_cases e : j = i
    · subst e; rw [hb]; omega
    · exact h.1 j (by omega)
  · have e1 : dv B (i + 1) = dv B i + B i * 10 ^ i := rfl
    have e2 : dv S (i + 1) = dv S i + S i * 10 ^ i := rfl
    have e3 : up + S i = (up + S i) % 10 + (up + S i) / 10 * 10 := by omega
    have e4 : (up + S i) * 10 ^ i = B i * 10 ^ i + (up + S i) / 10 * 10 ^ (i + 1) := by
      conv => lhs; rw [e3]
      rw [Int.add_mul, hb, Int.pow_succ, Int.mul_assoc, Int.mul_comm 10 (10 ^ i)]
    have e5 := h.2.2
    rw [Int.add_mul] at e4
    rw [e1, e2]
    omega
/-- Where nothing is carried any more, what was written has the number of all the sums. -/
theorem Carry.last {S B : Nat → Int} {i n : Nat} (h : Carry S B i 0) (hn : n ≤ i) (hz : ∀ j, n ≤ j → S j = 0) : dv B i = dv S n := by
  have := h.2.2
  rw [Int.zero_mul, Int.add_zero] at this
  rw [this]
  exact sumN_more hn fun j hj _ => by rw [hz j hj, Int.zero_mul]
end Go.Proofs.YtoonpnfhcmghmaaDoor
namespace Go.Proofs.YtoonpnfhcmghmaaDoor
open Go.RowKit
theorem below_alloc (w : World) (o : Obj) : Below w.heap.size w (w.alloc o) := (Below.refl _ _).alloc (Nat.le_refl _) o
end Go.Proofs.YtoonpnfhcmghmaaDoor
namespace Go.Proofs.YtoonpnfhcmghmaaDoor
open Go.RowKit
theorem alloc_heap (w : World) (o : Obj) : (w.alloc o).heap[w.heap.size]? = some o := heap_alloc_new w o
theorem heap_lt {w : World} {g : Nat} {o : Obj} (h : w.heap[g]? = some o) : g < w.heap.size := (Array.getElem?_eq_some_iff.1 h).1
theorem heap_cell {w : World} {g j : Nat} {cs : Array Value} {t : TypeId} {v : Value} (h : w.heap[g]? = some (.cells cs t)) (hj : cs[j]? = some v) : w.cell? ⟨g, j, none⟩ = some v := by
  unfold World.cell?
  simp [h, hj]
theorem heap_frozen {w : World} {g j : Nat} {cs : Array Value} {t : TypeId} (h : w.heap[g]? = some (.cells cs t)) : w.frozen? ⟨g, j, none⟩ = false := by
  unfold World.frozen?
  simp [h]
end Go.Proofs.YtoonpnfhcmghmaaDoor
namespace Go.Proofs.YtoonpnfhcmghmaaDoor
open Go.RowKit
/-- A struct's two cells. -/
def TwoC (s : Nat) (u v : Value) (W : World) : Prop := W.cell? ⟨s, 0, none⟩ = some u ∧ W.cell? ⟨s, 1, none⟩ = some v
theorem TwoC.keep {s b : Nat} {u v : Value} {W W' : World} (k : TwoC s u v W) (hb : Below b W W') (hlt : s < b) : TwoC s u v W' :=
  ⟨(hb.cell (p := ⟨s, 0, none⟩) hlt).trans k.1, (hb.cell (p := ⟨s, 1, none⟩) hlt).trans k.2⟩
theorem TwoC.drew {s : Nat} {u v : Value} {W : World} (k : TwoC s u v W) : TwoC s u v W.drew := k
theorem cell_set8 {w : World} {g g2 o j : Nat} {v : Value} (h : g ≠ g2) : (w.setCell ⟨g2, o, none⟩ v).cell? ⟨g, j, none⟩ = w.cell? ⟨g, j, none⟩ := by
  unfold World.cell?
  rw [Below.heap_setCell w ⟨g2, o, none⟩ v g h]
theorem TwoC.store2 {s p : Nat} {u v : Value} {W : World} (k : TwoC s u v W) (x y : Value) (h : s < p) : TwoC s u v ((W.setCell ⟨p, 0, none⟩ x).setCell ⟨p, 1, none⟩ y) :=
  ⟨by rw [cell_set8 (by omega), cell_set8 (by omega)]; exact k.1, by rw [cell_set8 (by omega), cell_set8 (by omega)]; exact k.2⟩
/-- A struct's block. -/
def TwoB (s : Nat) (u v : Value) (t : TypeId) (W : World) : Prop := W.heap[s]? = some (.cells #[u, v] t)
theorem TwoB.keep {s b : Nat} {u v : Value} {t : TypeId} {W W' : World} (k : TwoB s u v t W) (hb : Below b W W') (hlt : s < b) : TwoB s u v t W' := (hb.block s hlt).trans k
theorem TwoB.c {s : Nat} {u v : Value} {t : TypeId} {W : World} (k : TwoB s u v t W) : TwoC s u v W := ⟨heap_cell k rfl, heap_cell k rfl⟩
theorem TwoB.lt {s : Nat} {u v : Value} {t : TypeId} {W : World} (k : TwoB s u v t W) : s < W.heap.size := heap_lt k
theorem twoB_new (W : World) (u v : Value) (t : TypeId) : TwoB W.heap.size u v t (W.alloc (.cells #[u, v] t)) := alloc_heap W _
theorem store_cells {W : World} {R : Nat} {t : TypeId} {u v x y : Value} (h : TwoB R x y t W) : TwoC R u v ((W.setCell ⟨R, 0, none⟩ u).setCell ⟨R, 1, none⟩ v) := by
  have r0 : W.rowIs R t 2 (fun j => if j = 0 then x else y) := ⟨#[x, y], h, rfl, fun j hj => by
    rcases (show j = 0 ∨ j = 1 by omega) with rfl | rfl <;> rfl⟩
  have r2 := World.rowIs.set (World.rowIs.set r0 0 u) 1 v
  exact ⟨by have := World.rowIs.cell r2 (i := 0) (by omega); simpa using this, by have := World.rowIs.cell r2 (i := 1) (by omega); simpa using this⟩
theorem own_store {W : World} {g n R : Nat} {F : Nat → Int} {u v : Value} (h : Own W g n F) (hne : g ≠ R) : Own ((W.setCell ⟨R, 0, none⟩ u).setCell ⟨R, 1, none⟩ v) g n F :=
  World.rowIs.of_block h ((Below.heap_setCell _ ⟨R, 1, none⟩ v g hne).trans (Below.heap_setCell _ ⟨R, 0, none⟩ u g hne))
theorem below_store {b R : Nat} {w W : World} {u v : Value} (h : Below b w W) (hR : b ≤ R) : Below b w ((W.setCell ⟨R, 0, none⟩ u).setCell ⟨R, 1, none⟩ v) := (h.setCell (p := ⟨R, 0, none⟩) hR u).setCell (p := ⟨R, 1, none⟩) hR v
/-- The answer: a struct of the field and a list in memory of its own. -/
def OwnVec (f : Int) (w : World) (l : List Int) (e : Ending) (w' : World) : Prop := ∃ g, e = .returned (.agg #[.int .i64 f, .slice (some ⟨g, 0, none⟩) l.length l.length]) ∧ w.heap.size ≤ g ∧ Own w' g l.length (lf l) ∧ Below w.heap.size w w'
theorem OwnVec.up {f : Int} {u w w' : World} {l : List Int} {e : Ending} (h : OwnVec f w l e w') (hb : Below u.heap.size u w) : OwnVec f u l e w' := by
  obtain ⟨g, he, hg, ho, hb2⟩ := h
  exact ⟨g, he, Nat.le_trans hb.size hg, ho, below_up hb hb2 hb.size⟩
theorem ringOf_c (f : Int) (a : Option Addr) (n cap : Nat) (w : World) : Calls Tryd.prog 55 #[.int .i64 f, .slice a n cap] w (fun e w' => e = .returned (.agg #[.int .i64 f, .slice a n cap]) ∧ Below w.heap.size w w') := by
  have HB : Hid (∀ o, Below w.heap.size w (w.alloc o)) := Lib.hid (below_alloc w)
  go_enter Tryd.func55, Tryd.ntmps55
  go_wp2
  refine bodyPost_ret (v := .agg #[.int .i64 f, .slice a n cap]) (by simp [results, Tryd.results55, go_sem]) rfl ?_
  exact ⟨rfl, HB.out _⟩
theorem size8_c (f : Int) (a : Option Addr) (n cap : Nat) (w : World) : Calls Tryd.prog 101 #[.agg #[.int .i64 f, .slice a n cap]] w (IntP w n) := by
  have HB : Hid (∀ o, Below w.heap.size w (w.alloc o)) := Lib.hid (below_alloc w)
  go_enter Tryd.func101, Tryd.ntmps101
  go_wp2
  go_ret
  exact ⟨rfl, HB.out _⟩
set_option maxRecDepth 100000 in
set_option maxHeartbeats 1600000 in
theorem splitRoot_c (f : Int) (a : Option Addr) (l : List Int) (cap : Nat) (w : World) (ht : Tab w) (h : OpenOk f l) : Calls Tryd.prog 109 #[.agg #[.int .i64 f, .slice a l.length cap]] w (IntP w (zL f l)) := by
  have HT : Hid (∀ W, Below w.heap.size w W → Tab W) := Lib.hid fun W hb => ht.below hb
  have HH := Lib.hid h.has.1
  have HZ : Hid (mRoot f (mLog l.length + 1) = zL f l) := Lib.hid rfl
  have h9 : 0 ≤ mLog l.length ∧ mLog l.length ≤ 9 := by
    obtain ⟨k, hk, hq1, hl, hq2⟩ := h.1.log
    omega
  have hn5 := h.1.pos.2
  clear h ht
  have HL : Hid (∀ W, Calls Tryd.prog 92 #[.int .i64 l.length] W fun e w' => e = .returned (.int .i64 (mLog l.length)) ∧ W = w') := Lib.hid fun W => iLogOf l.length W
  generalize zL f l = z at *
  generalize mLog l.length = L at *
  have HRT : Hid (∀ W, Below w.heap.size w W → Calls Tryd.prog 129 #[.int .i64 f, .int .i64 (IntKind.i64.wrap (L + 1))] W fun e w' => e = .returned (.int .i64 z) ∧ W = w') := Lib.hid fun W hb => by
    rw [show IntKind.i64.wrap (L + 1) = L + 1 from IntWalk.i64_in _ (by omega), ← HZ.out]
    exact rootk_c f (L + 1) W (HT.out W hb) HH.out
  generalize l.length = n at *
  have HB0 := Lib.hid (twoB_new w (.int .i64 f) (.slice a n cap) 56)
  have hb0 := below_alloc w (.cells #[.int .i64 f, .slice a n cap] 56)
  go_enter Tryd.func109, Tryd.ntmps109
  go_wp2_with fail
  generalize w.alloc (.cells #[.int .i64 f, .slice a n cap] 56) = W0 at *
  have k0 := HB0.out.c
  have d0 : TwoC w.heap.size (.int .i64 f) (.slice a n cap) W0.drew := k0.drew
  have hbd : Below w.heap.size w W0.drew := hb0.drew
  have hl0 := HB0.out.lt
  have hl0d : w.heap.size < W0.drew.heap.size := hl0
  go_region_held3 (fun W => W.cell? ⟨w.heap.size, 0, none⟩ = some (.int .i64 f) ∧ W.cell? ⟨w.heap.size, 1, none⟩ = some (.slice a n cap))
    (first | exact k0 | exact d0 | exact k1 | go_keep)
    (first
      | (go_at_call 101; refine (size8_c f a n cap _).mono ?_; rintro e w1 ⟨rfl, b1⟩; have k1 := d0.keep b1 hl0d; have c1 := below_up hbd b1 hbd.size)
      | (go_at_call 92; refine (HL.out _).mono ?_; rintro e w' ⟨rfl, rfl⟩)
      | (go_at_call 129; refine (HRT.out _ c1).mono ?_; rintro e w' ⟨rfl, rfl⟩))
  go_wp2
  go_ret
  exact ⟨rfl, c1⟩
theorem product8_c (f : Int) (a : Option Addr) (n cap : Nat) (A : Nat → Int) (w : World) (ht : Tab w) (h08 : 0 ≤ f ∧ f ≤ 8) (hA : ∀ j, j < n → 0 ≤ A j ∧ A j < P f) (hn : n ≤ 512) (hs : Src w a n A) : Calls Tryd.prog 65 #[.agg #[.int .i64 f, .slice a n cap]] w (IntP w (prF f A n)) := by
  have HT : Hid (∀ W, Below w.heap.size w W → Tab W) := Lib.hid fun W hb => ht.below hb
  have HB0 := Lib.hid (twoB_new w (.int .i64 f) (.slice a n cap) 56)
  have hb0 := below_alloc w (.cells #[.int .i64 f, .slice a n cap] 56)
  have HS := Lib.hid hs
  have HA := Lib.hid hA
  have HPB := Lib.hid (prF_bd h08.1 h08.2 A)
  clear hs ht hA
  go_enter Tryd.func65, Tryd.ntmps65
  go_wp2_with fail
  generalize w.alloc (.cells #[.int .i64 f, .slice a n cap] 56) = W0 at *
  obtain ⟨c0, c1⟩ := HB0.out.c
  have hT0 := Lib.hid (HT.out _ hb0)
  go_wp2_with fail
  go_loop [3, 5, 9] (fun o _ i => ∃ k : Nat, i = .int .i64 k ∧ k ≤ n ∧ o = .int .i64 (prF f A k)) (fun _ _ i => n - (intOf i).toNat)
  case atStart => exact ⟨0, rfl, Nat.zero_le _, rfl⟩
  case round =>
    obtain ⟨k, rfl, hk, rfl⟩ := hrel
    by_cases h1 : k < n
    · have hd1 : decide ((k : Int) < n) = true := decide_eq_true (by omega)
      obtain ⟨b, off, rfl, hlt, hc⟩ := vec_some HS.out (by omega)
      have d1 : W0.cell? ⟨b, off + k, none⟩ = some (.int .i64 (A k)) := (hb0.cell (p := ⟨b, off + k, none⟩) hlt).trans (hc k h1)
      have pk := HPB.out k
      have ak := HA.out k h1
      have HN : Hid (RS (prF f A k * A k) (P f) = prF f A (k + 1)) := Lib.hid rfl
      clear hc
      go_wp2_with fail
      refine (mul_c f (prF f A k) (A k) _ hT0.out h08.1 h08.2 pk.1 pk.2 ak.1 ak.2).mono ?_
      rintro e w' ⟨rfl, rfl⟩
      rw [HN.out]
      go_wp2
      go_round
      case rel => exact ⟨k + 1, by go_num, by omega, rfl⟩
      case measure => simp [intOf]; omega
    · have hd1 : decide ((k : Int) < n) = false := decide_eq_false (by omega)
      obtain rfl : k = n := by omega
      go_wp2
      go_ret
      exact ⟨rfl, hb0⟩
/-- The iterator over powers: what its boxes hold. -/
def PwIt (f r : Int) (n B : Nat) (W : World) : Prop := B + 2 < W.heap.size ∧ W.cell? ⟨B + 2, 0, none⟩ = some (.int .i64 n) ∧ W.cell? ⟨B, 0, none⟩ = some (.int .i64 f) ∧ W.cell? ⟨B + 1, 0, none⟩ = some (.int .i64 r)
theorem PwIt.drew {f r : Int} {n B : Nat} {W : World} (h : PwIt f r n B W) : PwIt f r n B W.drew := h
theorem powersIt_c (f r : Int) (n : Nat) (w : World) : Calls Tryd.prog 128 #[.int .i64 f, .int .i64 r, .int .i64 n] w (fun e w' => ∃ B, e = .returned (.func (.func 137) #[] #[.pointer (some ⟨B + 2, 0, none⟩), .pointer (some ⟨B, 0, none⟩), .pointer (some ⟨B + 1, 0, none⟩)]) ∧ PwIt f r n B w' ∧ Below w.heap.size w w') := by
  refine (powers_c f r n w).mono ?_
  rintro e w' ⟨rfl, rfl⟩
  refine ⟨w.heap.size, rfl, ⟨by simp, ?_, ?_, ?_⟩, (((Below.refl _ _).alloc (Nat.le_refl _) _).alloc (by simp) _).alloc (by simp; omega) _⟩
  · have := Boxed.new ((w.alloc (.cells #[.int .i64 f] 54)).alloc (.cells #[.int .i64 r] 3)) 3 (.int .i64 (n : Int))
    rw [World.size_alloc, World.size_alloc] at this
    exact this.cell
  · exact (((Boxed.new w 54 (.int .i64 f)).alloc _).alloc _).cell
  · have := (Boxed.new (w.alloc (.cells #[.int .i64 f] 54)) 3 (.int .i64 r)).alloc (.cells #[.int .i64 (n : Int)] 3)
    rw [World.size_alloc] at this
    exact this.cell
theorem pwL_len (f a : Int) (n : Nat) : (pwL f a n).length = n := tab_len _ _
theorem collect_c (f r : Int) (n B : Nat) (w : World) (ht : Tab w) (h08 : 0 ≤ f ∧ f ≤ 8) (hr : 0 ≤ r ∧ r < P f) (hn : n ≤ 512) (hI : PwIt f r n B w) : Calls Tryd.prog 127 #[.func (.func 137) #[] #[.pointer (some ⟨B + 2, 0, none⟩), .pointer (some ⟨B, 0, none⟩), .pointer (some ⟨B + 1, 0, none⟩)]] w (ListL w (pwL f r n)) := by
  obtain ⟨i1, i2, i3, i4⟩ := hI
  have HA := Lib.hid (appendSeq_c f r n (B + 2) B (B + 1) w ht h08.1 h08.2 hr.1 hr.2 hn (by omega) (by omega) (by omega) (by omega) i2 i3 i4)
  have HF : Hid (∀ v W, W.ownsRow w.heap.size 3 1 v n ((pws f r n).map (Value.int .i64)) → Below w.heap.size w W → ListL w (pwL f r n) (.returned v) W) := Lib.hid fun v W ho hb => by
    rw [pws_xs h08.1 h08.2 hr.1] at ho
    exact (owns_to (w := w) (l := pwL f r n) ho (pwL_len _ _ _).symm (fun j _ => rfl) hb).list
  clear i2 i3 i4 ht
  go_enter Tryd.func127, Tryd.ntmps127
  go_wp2_with fail
  refine HA.out.mono ?_
  rintro e w1 ⟨v, rfl, ho, hb⟩
  have HR := Lib.hid (HF.out v w1 ho hb)
  clear ho HA HF
  go_wp2
  go_ret
  exact HR.out
theorem VecOk.pw {f r : Int} {l : List Int} (h : VecOk f l) : VecOk f (pwL f r l.length) := h.tab rfl _ fun _ _ => RS_bd (P_pos h.f08.1 h.f08.2)
set_option maxRecDepth 100000 in
set_option maxHeartbeats 3200000 in
theorem weighted_c (f x : Int) (a : Option Addr) (l : List Int) (cap : Nat) (w : World) (ht : Tab w) (h : VecOk f l) (hx : 0 ≤ x ∧ x < P f) (hs : Src w a l.length (lf l)) : Calls Tryd.prog 108 #[.agg #[.int .i64 f, .slice a l.length cap], .int .i64 x] w (OwnVec f w (ptwL f l (pwL f x l.length))) := by
  have HT : Hid (∀ W, Below w.heap.size w W → Tab W) := Lib.hid fun W hb => ht.below hb
  have hn5 := h.pos.2
  have h08 := h.f08
  have HPW : Hid (∀ (a2 : Option Addr) (c2 : Nat) (W : World), Below w.heap.size w W → Src W a2 (pwL f x l.length).length (lf (pwL f x l.length)) → Calls Tryd.prog 64 #[.int .i64 f, .slice a l.length cap, .slice a2 (pwL f x l.length).length c2] W (OwnG W (ptwL f l (pwL f x l.length)))) := Lib.hid fun a2 c2 W hb h2 => pointwise_c f a l cap a2 (pwL f x l.length) c2 W (hs.keep hb) h2 (ht.below hb) ⟨(pwL_len _ _ _).symm, h, h.pw⟩
  clear hs h ht
  generalize ptwL f l (pwL f x l.length) = R at *
  have HC : Hid (∀ B W, Below w.heap.size w W → PwIt f x l.length B W → Calls Tryd.prog 127 #[.func (.func 137) #[] #[.pointer (some ⟨B + 2, 0, none⟩), .pointer (some ⟨B, 0, none⟩), .pointer (some ⟨B + 1, 0, none⟩)]] W (ListL W (pwL f x l.length))) := Lib.hid fun B W hb hI => collect_c f x l.length B W (HT.out W hb) h08 hx hn5 hI
  generalize pwL f x l.length = Q at *
  generalize l.length = n at *
  have hb0 := below_alloc w (.cells #[.int .i64 f, .slice a n cap] 56)
  have hz0 : (w.alloc (.cells #[.int .i64 f, .slice a n cap] 56)).heap.size = w.heap.size + 1 := by simp
  have hb1 := below_alloc (w.alloc (.cells #[.int .i64 f, .slice a n cap] 56)) (.cells #[.int .i64 0, .slice none 0 0] 56)
  have t1 := twoB_new (w.alloc (.cells #[.int .i64 f, .slice a n cap] 56)) (.int .i64 0) (.slice none 0 0) 56
  have t0 := (twoB_new w (.int .i64 f) (.slice a n cap) 56).keep hb1 (by rw [hz0]; omega)
  have hb2 := below_up hb0 hb1 hb0.size
  rw [hz0] at t1
  have HB0 := Lib.hid t0
  have HB1 := Lib.hid t1
  clear hz0 t0 t1 hb0 hb1
  go_enter Tryd.func108, Tryd.ntmps108
  go_wp2_with fail
  generalize ((w.alloc (.cells #[.int .i64 f, .slice a n cap] 56)).alloc (.cells #[.int .i64 0, .slice none 0 0] 56)) = W0 at *
  have kb := HB0.out.c
  have k0 : TwoC w.heap.size (.int .i64 f) (.slice a n cap) W0.drew := kb.drew
  have hl0 : w.heap.size < W0.drew.heap.size := HB0.out.lt
  have hbd : Below w.heap.size w W0.drew := hb2.drew
  have HBD : Hid (TwoB (w.heap.size + 1) (.int .i64 0) (.slice none 0 0) 56 W0.drew) := HB1
  have hlr : w.heap.size + 1 < W0.drew.heap.size := HB1.out.lt
  go_region_held3 (fun W => W.cell? ⟨w.heap.size, 0, none⟩ = some (.int .i64 f) ∧ W.cell? ⟨w.heap.size, 1, none⟩ = some (.slice a n cap))
    (first | exact kb | exact k0 | exact k1 | exact k2 | exact k3 | go_keep)
    (first
      | (go_at_call 101; refine (size8_c f a n cap _).mono ?_; rintro e w1 ⟨rfl, b1⟩; have k1 := k0.keep b1 hl0; have c1 := below_up hbd b1 hbd.size; have r1 := HBD.out.keep b1 hlr; have l1 : w.heap.size < w1.heap.size := by (have := b1.size; omega))
      | (go_at_call 128; refine (powersIt_c f x n _).mono ?_; rintro e w2 ⟨B, rfl, I2, b2⟩; have k2 := k1.keep b2 l1; have c2 := below_up c1 b2 c1.size; have r2 := r1.keep b2 r1.lt; have l2 : w.heap.size < w2.heap.size := by (have := b2.size; omega))
      | (go_at_call 127; refine (HC.out B _ c2 I2).mono ?_; rintro e w3 ⟨a3, cc3, rfl, s3, b3⟩; have k3 := k2.keep b3 l2; have c3 := below_up c2 b3 c2.size; have r3 := r2.keep b3 r2.lt; have l3 : w.heap.size < w3.heap.size := by (have := b3.size; omega)))
  clear k0 k1 k2 b1 b2 b3 c1 c2 r1 r2 l1 l2 I2 kb HC hb2 hbd HBD hlr hl0 HB0 HB1
  have HS3 := Lib.hid s3
  clear s3
  have k3d : TwoC w.heap.size (.int .i64 f) (.slice a n cap) w3.drew := k3.drew
  have c3d : Below w.heap.size w w3.drew := c3.drew
  have l3d : w.heap.size < w3.drew.heap.size := l3
  have r3d : TwoB (w.heap.size + 1) (.int .i64 0) (.slice none 0 0) 56 w3.drew := r3
  have HPP : Hid (Calls Tryd.prog 64 #[.int .i64 f, .slice a n cap, .slice a3 Q.length cc3] w3.drew (OwnG w3.drew R)) := Lib.hid (HPW.out a3 cc3 _ c3d HS3.out)
  clear HPW HS3
  go_wp2_with fail
  go_region_held3 (fun W => W.cell? ⟨w.heap.size, 0, none⟩ = some (.int .i64 f) ∧ W.cell? ⟨w.heap.size, 1, none⟩ = some (.slice a n cap))
    (first | exact k3 | exact k3d | exact k4 | exact k4.store2 _ _ (by omega) | go_keep)
    (first
      | (go_at_call 64; refine HPP.out.mono ?_; rintro e w4 ⟨g4, rfl, hg4, o4, b4⟩; have k4 := k3d.keep b4 l3d; have c4 := below_up c3d b4 c3d.size; have r4 := r3d.keep b4 r3d.lt; have rr0 := r4.c.1; have rr1 := r4.c.2; have rf0 := heap_frozen (j := 0) r4; have rf1 := heap_frozen (j := 1) r4; have ne4 : g4 ≠ w.heap.size + 1 := (by (have := r3d.lt; omega)); have HO4 := Lib.hid o4))
  obtain ⟨e0, e1⟩ := store_cells (u := .int .i64 f) (v := .slice (some ⟨g4, 0, none⟩) R.length R.length) r4
  have HF : Hid (OwnVec f w R (.returned (.agg #[.int .i64 f, .slice (some ⟨g4, 0, none⟩) R.length R.length])) ((w4.setCell ⟨w.heap.size + 1, 0, none⟩ (.int .i64 f)).setCell ⟨w.heap.size + 1, 1, none⟩ (.slice (some ⟨g4, 0, none⟩) R.length R.length))) := Lib.hid ⟨g4, rfl, Nat.le_trans c3d.size hg4, own_store HO4.out ne4, below_store c4 (by omega)⟩
  clear k3 k3d k4 r4 rr0 rr1 rf0 rf1 HO4 c3 c4 c3d b4 r3 r3d
  generalize ((w4.setCell ⟨w.heap.size + 1, 0, none⟩ (.int .i64 f)).setCell ⟨w.heap.size + 1, 1, none⟩ (.slice (some ⟨g4, 0, none⟩) R.length R.length)) = W5 at *
  go_wp2
  refine bodyPost_ret (v := .agg #[.int .i64 f, .slice (some ⟨g4, 0, none⟩) R.length R.length]) (by simp [results, Tryd.results108, go_sem, *]) rfl ?_
  exact HF.out
end Go.Proofs.YtoonpnfhcmghmaaDoor
namespace Go.Proofs.YtoonpnfhcmghmaaDoor
open Go.RowKit
theorem wpList_copy_pad {w : World} {ops : Array Oper} {rest : List Oper} {o : Oper} {a : Act} {Q : Exit → Act → World → Prop} (hgd : o.guard = none) (d s : Operand)
    (ho : o.op = .call { callee := .builtin .copy, args := #[d, s], argTypes := #[24, 24] }) (N m cap1 cap2 : Nat) (a2 : Option Addr) (F : Nat → Int)
    (hd : a.eval d = .slice (some ⟨w.heap.size, 0, none⟩) N cap1) (hs : a.eval s = .slice a2 m cap2) (hmN : m ≤ N) (hsrc : Src w a2 m F)
    (h : ∀ w', Hid (Own w' w.heap.size N (fun j => if 0 ≤ j ∧ j < 0 + m then F (j - 0) else 0)) → Below w.heap.size w w' → wpList Tryd.prog ops Q rest (a.put o.dst (goInt m)) w') :
    wpList Tryd.prog ops Q (o :: rest) a (w.alloc (.cells (madeCells #[.int .i64 0] N) 3)) := by
  refine wpList_copy_splice hgd d s 24 24 ho 3 Tryd.underlying24 size3 (some ⟨w.heap.size, 0, none⟩) a2 N cap1 m cap2 hd hs w.heap.size 0 (madeCells #[.int .i64 0] N).toList 3 (by unfold World.alloc; simp) (xsF F m) (by rw [xsF_len]; exact (Nat.min_eq_left hmN).symm) ?_ (by rw [xsF_len, made_len]; omega) xsF_one w.heap.size w ((Below.refl _ _).alloc (Nat.le_refl _) _) (Nat.le_refl _) (fun w' hg hb => ?_)
  · intro hpos
    rw [xsF_len] at hpos
    refine ⟨rfl, ?_⟩
    rcases hsrc with hz | ⟨b, off2, rfl, hlt, hc⟩
    · omega
    · refine ⟨_, rfl, fun j v hv => ?_⟩
      obtain ⟨hj, rfl⟩ := xsF_at hv
      rw [add_at]
      exact (((Below.refl _ w).alloc (Nat.le_refl _) _).cell (p := ⟨b, off2 + j, none⟩) hlt).trans (hc j (by omega))
  · rw [xsF_len]
    exact h w' (Lib.hid (own_splice (by omega) hg.out)) hb
theorem padded_c (a : Option Addr) (l : List Int) (cap N : Nat) (w : World) (hl : l.length ≤ N) (hN : N ≤ 1048576) (hs : Src w a l.length (lf l)) : Calls Tryd.prog 93 #[.slice a l.length cap, .int .i64 N] w (OwnG w (padL l N)) := by
  have hmk := made_n N hN
  have HS := Lib.hid hs
  have HO : Hid (∀ w', Own w' w.heap.size N (fun j => if j < l.length then lf l j else 0) → Below w.heap.size w w' → OwnG w (padL l N) (.returned (.slice (some ⟨w.heap.size, 0, none⟩) N N)) w') := Lib.hid fun w' ho hb => OwnG.of_own ho (padL_len l N).symm (Nat.le_refl _) (fun j hj => by
    unfold padL
    rw [lf_tab, if_pos hj]
    by_cases hjl : j < l.length
    · rw [if_pos hjl]
    · rw [if_neg hjl, lf_out l (by omega)]) hb
  clear hs
  go_enter Tryd.func93, Tryd.ntmps93
  go_wp2_with (with_reducible refine wpList_copy_pad rfl _ _ rfl N l.length N cap _ (lf l) rfl rfl hl HS.out ?_)
  intro w2 H2 hb
  have HR := Lib.hid (HO.out w2 H2.out hb)
  clear hmk H2 HO
  go_wp2
  go_ret
  exact HR.out
end Go.Proofs.YtoonpnfhcmghmaaDoor
namespace Go.Proofs.YtoonpnfhcmghmaaDoor
/-- The first n coefficients agree modulo p. -/
def EqN (p : Int) (n : Nat) (A B : Nat → Int) : Prop := ∀ i, i < n → A i % p = B i % p
theorem EqN.refl (p : Int) (n : Nat) (A : Nat → Int) : EqN p n A A := fun _ _ => rfl
theorem EqN.symm {p : Int} {n : Nat} {A B : Nat → Int} (h : EqN p n A B) : EqN p n B A := fun i hi => (h i hi).symm
theorem EqN.trans {p : Int} {n : Nat} {A B C : Nat → Int} (h : EqN p n A B) (k : EqN p n B C) : EqN p n A C := fun i hi => (h i hi).trans (k i hi)
theorem EqN.mono {p : Int} {n m : Nat} {A B : Nat → Int} (h : EqN p n A B) (hm : m ≤ n) : EqN p m A B := fun i hi => h i (by omega)
theorem EqN.mul {p : Int} {n : Nat} {A A' B B' : Nat → Int} (h : EqN p n A A') (k : EqN p n B B') : EqN p n (mulS A B) (mulS A' B') := fun i hi => by
  show cv i A B % p = cv i A' B' % p
  rw [cv_sum, cv_sum]
  exact sumN_mod fun j hj => emod_mul_congr (h j (by omega)) (k (i - j) (by omega))
def addS (A B : Nat → Int) : Nat → Int := fun j => A j + B j
theorem EqN.add {p : Int} {n : Nat} {A A' B B' : Nat → Int} (h : EqN p n A A') (k : EqN p n B B') : EqN p n (addS A B) (addS A' B') := fun i hi => emod_add_congr (h i hi) (k i hi)
theorem add_mulS (A B C : Nat → Int) : mulS (addS A B) C = addS (mulS A C) (mulS B C) := funext fun k => cv_add_l k A B C
/-- The coefficients times their places. -/
def thS (A : Nat → Int) : Nat → Int := fun i => (i : Int) * A i
theorem thS_mul (A B : Nat → Int) : thS (mulS A B) = addS (mulS (thS A) B) (mulS A (thS B)) := by
  funext k
  show (k : Int) * cv k A B = cv k (thS A) B + cv k A (thS B)
  rw [cv_sum, cv_sum, cv_sum, ← sumN_mul, ← sumN_add]
  exact sumN_congr fun i hi => by
    unfold thS
    have e : (k : Int) = (i : Int) + ((k - i : Nat) : Int) := by omega
    rw [e, Int.add_mul]
    congr 1
    · rw [Int.mul_assoc]
    · rw [← Int.mul_assoc, ← Int.mul_assoc, Int.mul_comm (A i)]
theorem thS_add (A B : Nat → Int) : thS (addS A B) = addS (thS A) (thS B) := funext fun _ => Int.mul_add _ _ _
theorem EqN.th {p : Int} {n : Nat} {A B : Nat → Int} (h : EqN p n A B) : EqN p n (thS A) (thS B) := fun i hi => emod_mul_congr rfl (h i hi)
/-- What does not vanish in a field can be cancelled. -/
theorem cancelF {f : Int} (h0 : 0 ≤ f) (h8 : f ≤ 8) {c x y : Int} (hc : c % P f ≠ 0) (h : (c * x) % P f = (c * y) % P f) : x % P f = y % P f := by
  have hz : RS c (P f) ≠ 0 := hc
  have hi := (inv_one h0 h8 hz).1
  obtain ⟨v, hv⟩ : ∃ v, mPower f c (-1) = v := ⟨_, rfl⟩
  rw [hv] at hi
  have e1 : (v * c) % P f = 1 % P f := by
    have h2 : (v * (c % P f)) % P f = 1 := hi
    rw [Int.mul_emod, Int.emod_emod_of_dvd c (Int.dvd_refl _), ← Int.mul_emod] at h2
    rw [h2, one_p h0 h8]
  have key : ∀ z : Int, (v * (c * z)) % P f = z % P f := fun z => by
    rw [← Int.mul_assoc, Int.mul_emod, e1, ← Int.mul_emod, Int.one_mul]
  rw [← key x, ← key y]
  exact emod_mul_congr rfl h
/-- Two series with one product by A, where A's first coefficient does not vanish. -/
theorem EqN.cancel {f : Int} (h0 : 0 ≤ f) (h8 : f ≤ 8) {n : Nat} {A B C : Nat → Int} (hA : A 0 % P f ≠ 0) (h : EqN (P f) n (mulS A B) (mulS A C)) : EqN (P f) n B C := by
  intro i
  induction i using Nat.strongRecOn with
  | ind i ih =>
    intro hi
    have hi2 := h i hi
    cases i with
    | zero => exact cancelF h0 h8 hA hi2
    | succ k =>
      have e1 : cv k (tl A) B % P f = cv k (tl A) C % P f := by
        rw [cv_sum, cv_sum]
        exact sumN_mod fun j hj => emod_mul_congr rfl (ih (k - j) (by omega) (by omega))
      have h2 : (A 0 * B (k + 1) + cv k (tl A) B) % P f = (A 0 * C (k + 1) + cv k (tl A) C) % P f := hi2
      have h3 : (A 0 * B (k + 1)) % P f = (A 0 * C (k + 1)) % P f := by
        rw [Int.emod_eq_emod_iff_emod_sub_eq_zero] at h2 e1 ⊢
        have e : A 0 * B (k + 1) + cv k (tl A) B - (A 0 * C (k + 1) + cv k (tl A) C) = (A 0 * B (k + 1) - A 0 * C (k + 1)) + (cv k (tl A) B - cv k (tl A) C) := by omega
        rw [e, Int.add_emod, e1, Int.add_zero, Int.emod_emod_of_dvd _ (Int.dvd_refl _)] at h2
        exact h2
      exact cancelF h0 h8 hA h3
/-- B is the inverse of A. -/
def IsInv (p : Int) (n : Nat) (A B : Nat → Int) : Prop := EqN p n (mulS A B) oneS
theorem IsInv.unique {p : Int} {n : Nat} {A B C : Nat → Int} (hB : IsInv p n A B) (hC : IsInv p n A C) : EqN p n B C := by
  have h1 : EqN p n (mulS B (mulS A C)) (mulS B oneS) := (EqN.refl p n B).mul hC
  have h2 : EqN p n (mulS (mulS A B) C) (mulS oneS C) := hB.mul (EqN.refl p n C)
  have e : mulS B (mulS A C) = mulS (mulS A B) C := by rw [← mul_assocS, mul_commS B A]
  rw [e, mul_commS B oneS, one_mul] at h1
  rw [one_mul] at h2
  exact h1.symm.trans h2
/-- The logarithm L and the series A that it is of. -/
def IsLog (p : Int) (n : Nat) (L A : Nat → Int) : Prop := EqN p n (thS A) (mulS (thS L) A)
/-- The logarithm of a product. -/
theorem IsLog.mul {p : Int} {n : Nat} {L M A B : Nat → Int} (hA : IsLog p n L A) (hB : IsLog p n M B) : IsLog p n (addS L M) (mulS A B) := by
  unfold IsLog at *
  rw [thS_mul, thS_add, add_mulS]
  refine EqN.add ?_ ?_
  · have := hA.mul (EqN.refl p n B)
    rwa [mul_assocS] at this
  · have := (EqN.refl p n A).mul hB
    rwa [← mul_assocS, mul_commS A (thS M), mul_assocS] at this
theorem IsInv.mul {p : Int} {n : Nat} {A B V W : Nat → Int} (hA : IsInv p n A V) (hB : IsInv p n B W) : IsInv p n (mulS A B) (mulS V W) := by
  unfold IsInv at *
  have e : mulS (mulS A B) (mulS V W) = mulS (mulS A V) (mulS B W) := by
    rw [mul_assocS, ← mul_assocS B V W, mul_commS B V, mul_assocS V B W, ← mul_assocS]
  rw [e]
  have := hA.mul hB
  rwa [one_mul] at this
/-- Powers. -/
theorem EqN.pow {p : Int} {n : Nat} {A B : Nat → Int} (h : EqN p n A B) : ∀ k : Nat, EqN p n (powS A k) (powS B k)
  | 0 => EqN.refl _ _ _
  | k + 1 => (EqN.pow h k).mul h
theorem pow_oneS (p : Int) (n : Nat) : ∀ k : Nat, EqN p n (powS oneS k) oneS
  | 0 => EqN.refl _ _ _
  | k + 1 => by
    have := (pow_oneS p n k).mul (EqN.refl p n oneS)
    rwa [one_mul] at this
theorem pow_mulS (A B : Nat → Int) : ∀ k : Nat, powS (mulS A B) k = mulS (powS A k) (powS B k)
  | 0 => (one_mul oneS).symm
  | k + 1 => by
    show mulS (powS (mulS A B) k) (mulS A B) = mulS (mulS (powS A k) A) (mulS (powS B k) B)
    rw [pow_mulS A B k, mul_assocS, mul_assocS, ← mul_assocS (powS B k) A B, mul_commS (powS B k) A, mul_assocS A (powS B k) B]
theorem IsInv.powers {p : Int} {n : Nat} {A V : Nat → Int} (h : IsInv p n A V) (k : Nat) : EqN p n (mulS (powS A k) (powS V k)) oneS := by
  rw [← pow_mulS]
  exact (EqN.pow h k).trans (pow_oneS p n k)
theorem IsInv.less {p : Int} {n : Nat} {A V : Nat → Int} (h : IsInv p n A V) (i k : Nat) : EqN p n (mulS (powS A (i + k)) (powS V k)) (powS A i) := by
  rw [pow_addS, mul_assocS]
  have := (EqN.refl p n (powS A i)).mul (h.powers k)
  rwa [mul_commS (powS A i) oneS, one_mul] at this
theorem IsInv.symm {p : Int} {n : Nat} {A V : Nat → Int} (h : IsInv p n A V) : IsInv p n V A := by
  unfold IsInv at *
  rwa [mul_commS]
end Go.Proofs.YtoonpnfhcmghmaaDoor
namespace Go.Proofs.YtoonpnfhcmghmaaDoor
/-- B starts with 1, and its square is A. -/
def IsSqrt (p : Int) (n : Nat) (B A : Nat → Int) : Prop := B 0 % p = 1 % p ∧ EqN p n (mulS B B) A
theorem two_ne {f : Int} (h0 : 0 ≤ f) (h8 : f ≤ 8) : (2 : Int) % P f ≠ 0 := by
  have h := P_bd h0 h8
  rw [Int.emod_eq_of_lt (by omega) (by omega)]
  omega
theorem IsSqrt.unique {f : Int} (h0 : 0 ≤ f) (h8 : f ≤ 8) {n : Nat} {A B C : Nat → Int} (hB : IsSqrt (P f) n B A) (hC : IsSqrt (P f) n C A) : EqN (P f) n B C := by
  have h1 := hB.2.trans hC.2.symm
  have hs : addS B C 0 % P f ≠ 0 := by
    have : (B 0 + C 0) % P f = (1 + 1) % P f := emod_add_congr hB.1 hC.1
    show (B 0 + C 0) % P f ≠ 0
    rw [this]
    exact two_ne h0 h8
  refine EqN.cancel h0 h8 hs ?_
  rw [add_mulS, add_mulS, mul_commS C B]
  intro i hi
  show (cv i B B + cv i B C) % P f = (cv i B C + cv i C C) % P f
  rw [Int.add_comm (cv i B C) (cv i C C)]
  exact emod_add_congr (h1 i hi) rfl
/-- S, signed, are what the identities ask of E (places from 1 on). -/
def sgnS (S : Nat → Int) : Nat → Int := fun k => if k = 0 then 0 else (-1) ^ (k - 1) * S (k - 1)
def IsNewt (p : Int) (n : Nat) (E S : Nat → Int) : Prop := EqN p (n + 1) (thS E) (mulS (sgnS S) E)
theorem pm_one : ∀ k : Nat, ((-1 : Int)) ^ k = 1 ∨ ((-1 : Int)) ^ k = -1
  | 0 => .inl rfl
  | k + 1 => by
    rw [Int.pow_succ]
    rcases pm_one k with h | h
    · exact .inr (by rw [h]; rfl)
    · exact .inl (by rw [h]; rfl)
theorem IsNewt.unique {f : Int} (h0 : 0 ≤ f) (h8 : f ≤ 8) {n : Nat} {E S T : Nat → Int} (hE : E 0 % P f ≠ 0) (hS : IsNewt (P f) n E S) (hT : IsNewt (P f) n E T) : EqN (P f) n S T := by
  have h1 : EqN (P f) (n + 1) (sgnS S) (sgnS T) := by
    have h2 := hS.symm.trans hT
    rw [mul_commS (sgnS S), mul_commS (sgnS T)] at h2
    exact h2.cancel h0 h8 hE
  intro i hi
  have h3 := h1 (i + 1) (by omega)
  have e : ∀ U : Nat → Int, sgnS U (i + 1) = (-1) ^ i * U i := fun U => rfl
  rw [e, e] at h3
  rcases pm_one i with h | h
  · rw [h, Int.one_mul, Int.one_mul] at h3; exact h3
  · rw [h] at h3
    have h4 : (-1 * (-1 * S i)) % P f = (-1 * (-1 * T i)) % P f := emod_mul_congr rfl h3
    rwa [← Int.mul_assoc, ← Int.mul_assoc, show (-1 : Int) * -1 = 1 by decide, Int.one_mul, Int.one_mul] at h4
end Go.Proofs.YtoonpnfhcmghmaaDoor
namespace Go.Proofs.YtoonpnfhcmghmaaDoor
def SerOk (f : Int) (l : List Int) : Prop := (0 ≤ f ∧ f ≤ 8) ∧ (1 ≤ l.length ∧ l.length ≤ 64) ∧ ∀ j, j < l.length → 0 ≤ lf l j ∧ lf l j < P f
theorem SerOk.all {f : Int} {l : List Int} (h : SerOk f l) (j : Nat) : 0 ≤ lf l j ∧ lf l j < P f := by
  have hp := P_bd h.1.1 h.1.2
  by_cases hj : j < l.length
  · exact h.2.2 j hj
  · rw [lf_out l (by omega)]; omega
/-- A list of n elements. -/
def Ser (f : Int) (n : Nat) (l : List Int) : Prop := l.length = n ∧ ∀ j, 0 ≤ lf l j ∧ lf l j < P f
open Classical in
noncomputable def theL (Q : List Int → Prop) : List Int := if h : ∃ l, Q l then Classical.choose h else []
theorem theL_eq {Q : List Int → Prop} {l : List Int} (hu : ∀ a b, Q a → Q b → a = b) (h : Q l) : theL Q = l := by
  have hex : ∃ l, Q l := ⟨l, h⟩
  unfold theL
  rw [dif_pos hex]
  exact hu _ _ (Classical.choose_spec hex) h
def ShortOk (f : Int) (a : List Int) : Prop := SerOk f a ∧ (a.length : Int) ≤ P f
end Go.Proofs.YtoonpnfhcmghmaaDoor
namespace Go.Proofs.YtoonpnfhcmghmaaDoor
theorem inv_mul {f : Int} (h0 : 0 ≤ f) (h8 : f ≤ 8) {c : Int} (hc : c % P f ≠ 0) : (mPower f c (-1) * c) % P f = 1 % P f := by
  have h2 := (inv_one h0 h8 (z := c) hc).1
  have h3 : (mPower f c (-1) * (c % P f)) % P f = 1 := h2
  rw [Int.mul_emod, Int.emod_emod_of_dvd c (Int.dvd_refl _), ← Int.mul_emod] at h3
  rw [h3, one_p h0 h8]
/-- O with one more value. -/
def more (O : Nat → Int) (k : Nat) (x : Int) : Nat → Int := fun j => if j < k then O j else x
end Go.Proofs.YtoonpnfhcmghmaaDoor
namespace Go.Proofs.YtoonpnfhcmghmaaDoor
theorem Ser.ok {f : Int} (hf : 0 ≤ f ∧ f ≤ 8) {n : Nat} {l : List Int} (h : Ser f n l) (n1 : 1 ≤ n) (n2 : n ≤ 64) : SerOk f l := ⟨hf, by rw [h.1]; exact ⟨n1, n2⟩, fun j _ => h.2 j⟩
end Go.Proofs.YtoonpnfhcmghmaaDoor
namespace Go.Proofs.YtoonpnfhcmghmaaDoor
theorem Ser.short {f : Int} {a x : List Int} (h : ShortOk f a) (hx : Ser f a.length x) : ShortOk f x := ⟨hx.ok h.1.1 h.1.2.1.1 h.1.2.1.2, by rw [hx.1]; exact h.2⟩
theorem IsLog.congr {p : Int} {n : Nat} {L M A B : Nat → Int} (h : IsLog p n L A) (hL : EqN p n M L) (hA : EqN p n B A) : IsLog p n M B := (hA.th.trans h).trans ((hL.th.mul hA).symm)
end Go.Proofs.YtoonpnfhcmghmaaDoor
namespace Go.Proofs.YtoonpnfhcmghmaaDoor
theorem lf_cut_self (l : List Int) : lf (cutL l.length (lf l)) = lf l := funext fun j => by
  rw [lf_cutL]
  split
  · rfl
  · rw [lf_out l (by omega)]
end Go.Proofs.YtoonpnfhcmghmaaDoor
namespace Go.Proofs.YtoonpnfhcmghmaaDoor
open Go.RowKit
/-- The inverse as the specification has it. -/
theorem inv_pw {f x : Int} (h0 : 0 ≤ f) (h8 : f ≤ 8) (x0 : 0 < x) (x1 : x < P f) : PW (P f) x (P f - 2) = mPower f x (-1) := by
  rw [inverse_inv h0 h8 x0 x1]
  unfold invF
  rw [if_neg]
  unfold RS
  rw [Int.emod_eq_of_lt (by omega) x1]
  omega
end Go.Proofs.YtoonpnfhcmghmaaDoor
namespace Go.Proofs.YtoonpnfhcmghmaaDoor
open Go.RowKit
/-- A list that is read, and its capacity. -/
def SrcC (w : World) (a : Option Addr) (n cap : Nat) (F : Nat → Int) : Prop := n ≤ cap ∧ Src w a n F
theorem SrcC.src {w : World} {a : Option Addr} {n cap : Nat} {F : Nat → Int} (h : SrcC w a n cap F) : Src w a n F := h.2
theorem SrcC.keep {w w' : World} {a : Option Addr} {n cap : Nat} {F : Nat → Int} (h : SrcC w a n cap F) (hb : Below w.heap.size w w') : SrcC w' a n cap F := ⟨h.1, h.2.keep hb⟩
end Go.Proofs.YtoonpnfhcmghmaaDoor
namespace Go.Proofs.YtoonpnfhcmghmaaDoor
/-- Horner's values: the quotient by x - y of a polynomial of n + 1 coefficients. -/
def dqS (y : Int) (A : Nat → Int) (n k : Nat) : Int := evN y (fun j => A (k + 1 + j)) (n - k)
theorem dqS_tl (y : Int) (A : Nat → Int) (n : Nat) : tl (dqS y A (n + 1)) = dqS y (tl A) n := funext fun k => by
  show evN y (fun j => A (k + 1 + 1 + j)) (n + 1 - (k + 1)) = evN y (fun j => A (k + 1 + j + 1)) (n - k)
  rw [show n + 1 - (k + 1) = n - k by omega]
  congr 1
  funext j
  rw [show k + 1 + 1 + j = k + 1 + j + 1 by omega]
theorem dqS_zero (y : Int) (A : Nat → Int) (n : Nat) : dqS y A n 0 = evN y (tl A) n := by
  unfold dqS
  rw [Nat.sub_zero]
  congr 1
  funext j
  show A (0 + 1 + j) = A (j + 1)
  rw [show 0 + 1 + j = j + 1 by omega]
theorem dqS_step (y : Int) (A : Nat → Int) {n k : Nat} (h : k < n) : dqS y A n k = A (k + 1) + y * dqS y A n (k + 1) := by
  unfold dqS
  obtain ⟨m, hm⟩ : ∃ m, n - k = m + 1 := ⟨n - k - 1, by omega⟩
  rw [hm, evN_succ, show n - (k + 1) = m by omega]
  congr 2
  congr 1
  funext j
  show A (k + 1 + (j + 1)) = A (k + 1 + 1 + j)
  rw [show k + 1 + (j + 1) = k + 1 + 1 + j by omega]
theorem dqS_end (y : Int) (A : Nat → Int) (n : Nat) : dqS y A n n = 0 := by
  unfold dqS
  rw [Nat.sub_self]
  rfl
theorem evN_dq (x y : Int) : ∀ (n : Nat) (A : Nat → Int), evN x A (n + 1) = evN y A (n + 1) + (x - y) * evN x (dqS y A n) n
  | 0, A => by
    rw [evN_succ, evN_succ]
    simp [evN, sumN]
  | n + 1, A => by
    rw [evN_succ, evN_succ y A, evN_dq x y n (tl A), evN_succ x (dqS y A (n + 1)), dqS_tl, dqS_zero]
    obtain ⟨E, hE⟩ : ∃ E, evN y (tl A) (n + 1) = E := ⟨_, rfl⟩
    obtain ⟨D, hD⟩ : ∃ D, evN x (dqS y (tl A) n) n = D := ⟨_, rfl⟩
    rw [hE, hD, Int.mul_add, Int.mul_add, Int.sub_mul, Int.sub_mul, Int.sub_mul, Int.mul_sub, ← Int.mul_assoc x x D, ← Int.mul_assoc x y D, ← Int.mul_assoc y x D, Int.mul_comm y x, Int.mul_assoc x x D, ← Int.mul_assoc x x D]
    omega
/-- The points are distinct in the field. -/
def DistinctS (f : Int) (X : Nat → Int) (n : Nat) : Prop := ∀ i j, i < n → j < n → i ≠ j → (X i - X j) % P f ≠ 0
theorem DistinctS.less {f : Int} {X : Nat → Int} {n m : Nat} (h : DistinctS f X n) (hm : m ≤ n) : DistinctS f X m := fun i j hi hj => h i j (by omega) (by omega)
/-- A polynomial of n coefficients that vanishes at n points. -/
theorem roots_zero {f : Int} (h0 : 0 ≤ f) (h8 : f ≤ 8) (X : Nat → Int) : ∀ (n : Nat) (A : Nat → Int), DistinctS f X n → (∀ i, i < n → evN (X i) A n % P f = 0) → ∀ j, j < n → A j % P f = 0
  | 0, _, _, _ => fun j hj => by omega
  | n + 1, A, hd, hz => by
    have hB : ∀ j, j < n → dqS (X n) A n j % P f = 0 := roots_zero h0 h8 X n (dqS (X n) A n) (hd.less (by omega)) fun i hi => by
      have h1 := hz i (by omega)
      have h2 := hz n (by omega)
      rw [evN_dq (X i) (X n) n A, Int.add_emod, h2, Int.zero_add, Int.emod_emod_of_dvd _ (Int.dvd_refl _)] at h1
      have h3 := cancelF h0 h8 (x := evN (X i) (dqS (X n) A n) n) (y := 0) (hd i n (by omega) (by omega) (by omega)) (by rw [h1, Int.mul_zero]; rfl)
      rw [h3]
      rfl
    have hB2 : ∀ j, j ≤ n → dqS (X n) A n j % P f = 0 := fun j hj => by
      by_cases e : j < n
      · exact hB j e
      · obtain rfl : j = n := by omega
        rw [dqS_end]
        rfl
    intro j hj
    cases j with
    | zero =>
      have h2 := hz n (by omega)
      have h3 := hB2 0 (Nat.zero_le _)
      rw [dqS_zero] at h3
      rw [evN_succ, Int.add_emod, Int.mul_emod, h3, Int.mul_zero, Int.zero_emod, Int.add_zero, Int.emod_emod_of_dvd _ (Int.dvd_refl _)] at h2
      exact h2
    | succ k =>
      have h1 := dqS_step (X n) A (n := n) (k := k) (by omega)
      have h2 := hB k (by omega)
      have h3 := hB2 (k + 1) (by omega)
      rw [h1, Int.add_emod, Int.mul_emod, h3, Int.mul_zero, Int.zero_emod, Int.add_zero, Int.emod_emod_of_dvd _ (Int.dvd_refl _)] at h2
      exact h2
theorem evL_n {f x : Int} {a : List Int} {n : Nat} (h : a.length ≤ n) : evL f x a = RS (evN x (lf a) n) (P f) := by
  unfold evL
  rw [evN_more h fun j hj => lf_out a hj]
/-- Two coefficient functions with the same values at n points. -/
theorem same_values {f : Int} (h0 : 0 ≤ f) (h8 : f ≤ 8) {n : Nat} {A B X : Nat → Int} (hd : DistinctS f X n) (h : ∀ i, i < n → evN (X i) A n % P f = evN (X i) B n % P f) : ∀ j, j < n → A j % P f = B j % P f := fun j hj => by
  have h1 := roots_zero h0 h8 X n (fun j => A j + -1 * B j) hd (fun i hi => by
    rw [evN_add, evN_smul, show evN (X i) A n + -1 * evN (X i) B n = evN (X i) A n - evN (X i) B n by omega, ← Int.emod_eq_emod_iff_emod_sub_eq_zero]
    exact h i hi) j hj
  rw [Int.emod_eq_emod_iff_emod_sub_eq_zero]
  rw [← h1]
  congr 1
  omega
/-- There is one polynomial through points. -/
theorem through_unique {f : Int} (h0 : 0 ≤ f) (h8 : f ≤ 8) {n : Nat} {a b : List Int} {X : Nat → Int} (hd : DistinctS f X n) (ha : Pol f a) (hb : Pol f b) (la : a.length ≤ n) (lb : b.length ≤ n) (h : ∀ i, i < n → evL f (X i) a = evL f (X i) b) : a = b := by
  refine Pol.eq ha hb fun j => ?_
  by_cases hj : j < n
  · refine same_values h0 h8 hd (fun i hi => ?_) j hj
    have := h i hi
    rwa [evL_n la, evL_n lb] at this
  · rw [lf_out a (by omega), lf_out b (by omega)]
/-- x - y as a polynomial. -/
def linL (f y : Int) : List Int := [RS (0 - y) (P f), 1]
theorem linL_pol {f : Int} (h0 : 0 ≤ f) (h8 : f ≤ 8) (y : Int) : Pol f (linL f y) := by
  have hp := P_bd h0 h8
  refine ⟨fun j => ?_, .inr (by show (1 : Int) ≠ 0; decide)⟩
  match j with
  | 0 => exact RS_bd (by omega)
  | 1 => show 0 ≤ (1 : Int) ∧ (1 : Int) < P f; omega
  | j + 2 => show 0 ≤ (0 : Int) ∧ (0 : Int) < P f; omega
theorem evL_lin {f : Int} (x y : Int) : evL f x (linL f y) = RS (x - y) (P f) := by
  unfold evL
  have e : evN x (lf (linL f y)) (linL f y).length = RS (0 - y) (P f) + x := by
    show evN x (lf (linL f y)) 2 = _
    show 0 + lf (linL f y) 0 * x ^ 0 + lf (linL f y) 1 * x ^ 1 = _
    show 0 + RS (0 - y) (P f) * x ^ 0 + 1 * x ^ 1 = _
    rw [Int.pow_zero, Int.mul_one, Int.one_mul, Int.zero_add, Int.pow_succ, Int.pow_zero, Int.one_mul]
  rw [e]
  unfold RS
  rw [show x - y = (0 - y) + x by omega]
  exact emod_add_congr (Int.emod_emod_of_dvd _ (Int.dvd_refl _)) rfl
/-- The product of the x - X i, i < n. -/
def vanL (f : Int) (X : Nat → Int) : Nat → List Int
  | 0 => [1]
  | n + 1 => mulL f (vanL f X n) (linL f (X n))
theorem pol_oneL {f : Int} (h0 : 0 ≤ f) (h8 : f ≤ 8) : Pol f [1] := by
  have hp := P_bd h0 h8
  have e2 : cutL 1 (fun _ => (1 : Int)) = [1] := rfl
  rw [← e2]
  exact Pol.cut (by omega) fun _ _ => by omega
theorem vanL_pol {f : Int} (h0 : 0 ≤ f) (h8 : f ≤ 8) (X : Nat → Int) : ∀ n, Pol f (vanL f X n)
  | 0 => pol_oneL h0 h8
  | _ + 1 => pol_mulL h0 h8 _ _
theorem vanL_len {f : Int} (h0 : 0 ≤ f) (h8 : f ≤ 8) (X : Nat → Int) : ∀ n, (vanL f X n).length = n + 1
  | 0 => rfl
  | n + 1 => by
    have ih := vanL_len h0 h8 X n
    show (mulL f (vanL f X n) (linL f (X n))).length = _
    have l2 : (linL f (X n)).length = 2 := rfl
    rw [mulL_len h0 h8 (vanL_pol h0 h8 X n) (linL_pol h0 h8 _) (by omega) (by omega), ih, l2]
    omega
/-- The product of the x - X i as a number. -/
def pdZ (x : Int) (X : Nat → Int) : Nat → Int
  | 0 => 1
  | n + 1 => pdZ x X n * (x - X n)
theorem vanL_ev {f : Int} (h0 : 0 ≤ f) (h8 : f ≤ 8) (x : Int) (X : Nat → Int) : ∀ n, evL f x (vanL f X n) = RS (pdZ x X n) (P f)
  | 0 => by
    show evL f x [1] = RS 1 (P f)
    unfold evL
    show RS (0 + (1 : Int) * x ^ 0) (P f) = _
    rw [Int.pow_zero]
    rfl
  | n + 1 => by
    show evL f x (mulL f (vanL f X n) (linL f (X n))) = _
    rw [evL_mul, vanL_ev h0 h8 x X n, evL_lin]
    unfold RS
    exact (Int.mul_emod _ _ _).symm
theorem pdZ_zero {x : Int} {X : Nat → Int} : ∀ {n i : Nat}, i < n → x = X i → pdZ x X n = 0
  | n + 1, i, h, e => by
    show pdZ x X n * (x - X n) = 0
    by_cases hi : i < n
    · rw [pdZ_zero hi e, Int.zero_mul]
    · obtain rfl : i = n := by omega
      rw [e, Int.sub_self, Int.mul_zero]
/-- A product that vanishes has a factor that does. -/
theorem mul_ne_zero {f : Int} (h0 : 0 ≤ f) (h8 : f ≤ 8) {a b : Int} (ha : a % P f ≠ 0) (hb : b % P f ≠ 0) : (a * b) % P f ≠ 0 := fun h => by
  have h3 := cancelF h0 h8 (x := b) (y := 0) ha (by rw [h, Int.mul_zero]; rfl)
  exact hb (h3.trans rfl)
theorem pdZ_ne {f : Int} (h0 : 0 ≤ f) (h8 : f ≤ 8) {x : Int} {X : Nat → Int} : ∀ {n : Nat}, (∀ i, i < n → (x - X i) % P f ≠ 0) → pdZ x X n % P f ≠ 0
  | 0, _ => one_ne' h0 h8
  | n + 1, h => mul_ne_zero h0 h8 (pdZ_ne h0 h8 fun i hi => h i (by omega)) (h n (by omega))
where one_ne' (h0 : 0 ≤ f) (h8 : f ≤ 8) : (1 : Int) % P f ≠ 0 := by rw [one_p h0 h8]; decide
end Go.Proofs.YtoonpnfhcmghmaaDoor
namespace Go.Proofs.YtoonpnfhcmghmaaDoor
/-- How many of the first n places are marked. -/
def cntN (p : Nat → Bool) : Nat → Nat
  | 0 => 0
  | n + 1 => cntN p n + (if p n then 1 else 0)
theorem cntN_congr {p q : Nat → Bool} : ∀ {n : Nat}, (∀ i, i < n → p i = q i) → cntN p n = cntN q n
  | 0, _ => rfl
  | n + 1, h => by
    show cntN p n + (if p n then 1 else 0) = cntN q n + (if q n then 1 else 0)
    rw [cntN_congr fun i hi => h i (by omega), h n (by omega)]
theorem cntN_not (p : Nat → Bool) : ∀ n, cntN p n + cntN (fun i => !p i) n = n
  | 0 => rfl
  | n + 1 => by
    have := cntN_not p n
    show cntN p n + (if p n then 1 else 0) + (cntN (fun i => !p i) n + (if !p n then 1 else 0)) = n + 1
    cases p n
    · simp; omega
    · simp; omega
theorem cntN_or {p q r : Nat → Bool} : ∀ {n : Nat}, (∀ i, i < n → r i = true → p i = true ∨ q i = true) → cntN r n ≤ cntN p n + cntN q n
  | 0, _ => Nat.le_refl _
  | n + 1, h => by
    have ih := cntN_or (p := p) (q := q) (r := r) (n := n) fun i hi => h i (by omega)
    have hn := h n (by omega)
    show cntN r n + (if r n then 1 else 0) ≤ cntN p n + (if p n then 1 else 0) + (cntN q n + (if q n then 1 else 0))
    cases hr : r n
    · simp; omega
    · rcases hn hr with e | e <;> simp [e] <;> omega
/-- What lies at the marked places. -/
def selL (p : Nat → Bool) (X : Nat → Int) : Nat → List Int
  | 0 => []
  | n + 1 => if p n then selL p X n ++ [X n] else selL p X n
theorem selL_len (p : Nat → Bool) (X : Nat → Int) : ∀ n, (selL p X n).length = cntN p n
  | 0 => rfl
  | n + 1 => by
    show (if p n then selL p X n ++ [X n] else selL p X n).length = cntN p n + (if p n then 1 else 0)
    have := selL_len p X n
    split
    · rw [List.length_append, this]; rfl
    · omega
theorem selL_congr {p q : Nat → Bool} (X : Nat → Int) : ∀ {n : Nat}, (∀ i, i < n → p i = q i) → selL p X n = selL q X n
  | 0, _ => rfl
  | n + 1, h => by
    show (if p n then selL p X n ++ [X n] else selL p X n) = (if q n then selL q X n ++ [X n] else selL q X n)
    rw [selL_congr X fun i hi => h i (by omega), h n (by omega)]
theorem lf_app (l : List Int) (x : Int) (j : Nat) : lf (l ++ [x]) j = if j < l.length then lf l j else if j = l.length then x else 0 := by
  show (l ++ [x]).getD j 0 = if j < l.length then l.getD j 0 else if j = l.length then x else 0
  rw [List.getD_eq_getElem?_getD, List.getD_eq_getElem?_getD]
  by_cases h : j < l.length
  · rw [if_pos h, List.getElem?_append_left h]
  · rw [if_neg h, List.getElem?_append_right (by omega)]
    by_cases e : j = l.length
    · subst e
      rw [if_pos rfl, Nat.sub_self]
      rfl
    · rw [if_neg e, List.getElem?_eq_none (by simp; omega)]
      rfl
/-- The places that are marked, in their order. -/
theorem sel_idx (p : Nat → Bool) : ∀ n, ∃ s : Nat → Nat, (∀ j, j < cntN p n → s j < n ∧ p (s j) = true) ∧ (∀ i j, i < j → j < cntN p n → s i < s j) ∧ (∀ (X : Nat → Int) j, j < cntN p n → lf (selL p X n) j = X (s j)) ∧ ∀ i, i < n → p i = true → ∃ j, j < cntN p n ∧ s j = i
  | 0 => ⟨fun _ => 0, fun j hj => by have : j < 0 := hj; omega, fun i j _ hj => by have : j < 0 := hj; omega, fun X j hj => by have : j < 0 := hj; omega, fun i hi => by omega⟩
  | n + 1 => by
    obtain ⟨s, h1, h2, h3, h4⟩ := sel_idx p n
    by_cases hp : p n = true
    · have e : cntN p (n + 1) = cntN p n + 1 := by show cntN p n + (if p n then 1 else 0) = _; rw [if_pos hp]
      have eX : ∀ X : Nat → Int, selL p X (n + 1) = selL p X n ++ [X n] := fun X => by show (if p n then selL p X n ++ [X n] else selL p X n) = _; rw [if_pos hp]
      refine ⟨fun j => if j < cntN p n then s j else n, fun j hj => ?_, fun i j hij hj => ?_, fun X j hj => ?_, fun i hi hpi => ?_⟩
      · rw [e] at hj
        by_cases hj2 : j < cntN p n
        · simp only [if_pos hj2]
          have := h1 j hj2
          exact ⟨by omega, this.2⟩
        · simp only [if_neg hj2]
          exact ⟨by omega, hp⟩
      · rw [e] at hj
        have hi2 : i < cntN p n := by omega
        simp only [if_pos hi2]
        by_cases hj2 : j < cntN p n
        · simp only [if_pos hj2]
          exact h2 i j hij hj2
        · simp only [if_neg hj2]
          exact (h1 i hi2).1
      · rw [e] at hj
        rw [eX, lf_app, selL_len]
        by_cases hj2 : j < cntN p n
        · simp only [if_pos hj2]
          exact h3 X j hj2
        · simp only [if_neg hj2]
          rw [if_pos (by omega)]
      · rw [e]
        by_cases hin : i < n
        · obtain ⟨j, hj, hs⟩ := h4 i hin hpi
          exact ⟨j, by omega, by simp only [if_pos hj]; exact hs⟩
        · exact ⟨cntN p n, by omega, by simp only [Nat.lt_irrefl, if_false]; omega⟩
    · have e : cntN p (n + 1) = cntN p n := by show cntN p n + (if p n then 1 else 0) = _; rw [if_neg hp]; rfl
      have eX : ∀ X : Nat → Int, selL p X (n + 1) = selL p X n := fun X => by show (if p n then selL p X n ++ [X n] else selL p X n) = _; rw [if_neg hp]
      rw [e]
      refine ⟨s, fun j hj => ?_, h2, fun X j hj => by rw [eX]; exact h3 X j hj, fun i hi hpi => ?_⟩
      · have := h1 j hj
        exact ⟨by omega, this.2⟩
      · by_cases hin : i < n
        · exact h4 i hin hpi
        · obtain rfl : i = n := by omega
          exact absurd hpi hp
/-- The first k of the marked places. -/
def firstK (p : Nat → Bool) (k : Nat) (i : Nat) : Bool := p i && decide (cntN p i < k)
theorem firstK_cnt (p : Nat → Bool) (k : Nat) : ∀ n, cntN (firstK p k) n = min k (cntN p n)
  | 0 => by show 0 = min k 0; omega
  | n + 1 => by
    have ih := firstK_cnt p k n
    show cntN (firstK p k) n + (if firstK p k n then 1 else 0) = min k (cntN p n + (if p n then 1 else 0))
    rw [ih]
    unfold firstK
    cases hp : p n
    · simp
    · by_cases h : cntN p n < k
      · simp [h]; omega
      · simp [h]; omega
/-- A choice of places as the bits of a number. -/
def bitP (s : Nat) (i : Nat) : Bool := s / 2 ^ i % 2 == 1
theorem mask_exists (q : Nat → Bool) : ∀ n, ∃ s, s < 2 ^ n ∧ ∀ i, i < n → bitP s i = q i
  | 0 => ⟨0, by decide, fun i hi => by omega⟩
  | n + 1 => by
    obtain ⟨s, hs, hb⟩ := mask_exists (fun i => q (i + 1)) n
    refine ⟨2 * s + (if q 0 then 1 else 0), ?_, fun i hi => ?_⟩
    · rw [Nat.pow_succ]
      split <;> omega
    · cases i with
      | zero =>
        unfold bitP
        rw [Nat.pow_zero, Nat.div_one]
        cases q 0
        · simp
        · have : (2 * s + 1) % 2 = 1 := by omega
          simp [this]
      | succ i =>
        have h := hb i (by omega)
        have e : (2 * s + (if q 0 then 1 else 0)) / 2 ^ (i + 1) = s / 2 ^ i := by
          rw [show 2 ^ (i + 1) = 2 * 2 ^ i by rw [Nat.pow_succ, Nat.mul_comm], ← Nat.div_div_eq_div_mul]
          congr 1
          split <;> omega
        unfold bitP at h ⊢
        rw [e]
        exact h
end Go.Proofs.YtoonpnfhcmghmaaDoor
namespace Go.Proofs.YtoonpnfhcmghmaaDoor
theorem evL_scale (f x c : Int) (l : List Int) : evL f x (scaleL f l c) = RS (evL f x l * c) (P f) := by
  rw [evL_n (scaleL_le f l c)]
  unfold evL RS
  rw [evN_mod (p := P f) (y := x) (B := fun j => c * lf l j) _ rfl (fun j => by rw [lf_scaleL, Int.mul_comm]; simp), evN_smul, Int.mul_comm c]
  exact (emod_mul_congr (Int.emod_emod_of_dvd _ (Int.dvd_refl _)) rfl).symm
theorem distinct_of {f : Int} {X : Nat → Int} {n : Nat} (hb : ∀ j, j < n → 0 ≤ X j ∧ X j < P f) (hd : ∀ i j, i < j → j < n → X i ≠ X j) : DistinctS f X n := fun i j hi hj hij h => by
  rw [← Int.emod_eq_emod_iff_emod_sub_eq_zero, Int.emod_eq_of_lt (hb i hi).1 (hb i hi).2, Int.emod_eq_of_lt (hb j hj).1 (hb j hj).2] at h
  rcases Nat.lt_or_gt_of_ne hij with h2 | h2
  · exact hd i j h2 hj h
  · exact hd j i h2 hi h.symm
/-- The points but the i-th. -/
def othS (X : Nat → Int) (i : Nat) : Nat → Int := fun j => if j < i then X j else X (j + 1)
/-- The product of the X i - X j, j < k, j other than i, as an element. -/
def byF (f : Int) (X : Nat → Int) (i : Nat) : Nat → Int
  | 0 => 1
  | k + 1 => if k = i then byF f X i k else RS (byF f X i k * RS (X i - X k) (P f)) (P f)
theorem byF_lo (f : Int) (X : Nat → Int) (i : Nat) : ∀ k, k ≤ i → byF f X i k % P f = pdZ (X i) (othS X i) k % P f
  | 0, _ => rfl
  | k + 1, h => by
    show (if k = i then byF f X i k else RS (byF f X i k * RS (X i - X k) (P f)) (P f)) % P f = (pdZ (X i) (othS X i) k * (X i - othS X i k)) % P f
    rw [if_neg (by omega)]
    have e : othS X i k = X k := if_pos (by omega)
    rw [e]
    unfold RS
    rw [Int.emod_emod_of_dvd _ (Int.dvd_refl _)]
    exact emod_mul_congr (byF_lo f X i k (by omega)) (Int.emod_emod_of_dvd _ (Int.dvd_refl _))
theorem byF_hi (f : Int) (X : Nat → Int) (i : Nat) : ∀ k, i < k → byF f X i k % P f = pdZ (X i) (othS X i) (k - 1) % P f
  | k + 1, h => by
    show (if k = i then byF f X i k else RS (byF f X i k * RS (X i - X k) (P f)) (P f)) % P f = _
    by_cases e : k = i
    · rw [if_pos e]
      subst e
      exact byF_lo f X k k (Nat.le_refl _)
    · rw [if_neg e]
      obtain ⟨m, rfl⟩ : ∃ m, k = m + 1 := ⟨k - 1, by omega⟩
      have e2 : othS X i m = X (m + 1) := if_neg (by omega)
      show _ = (pdZ (X i) (othS X i) m * (X i - othS X i m)) % P f
      rw [e2]
      unfold RS
      rw [Int.emod_emod_of_dvd _ (Int.dvd_refl _)]
      exact emod_mul_congr (byF_hi f X i (m + 1) (by omega)) (Int.emod_emod_of_dvd _ (Int.dvd_refl _))
theorem byF_ne {f : Int} (h0 : 0 ≤ f) (h8 : f ≤ 8) {X : Nat → Int} {n i : Nat} (hd : DistinctS f X n) (hi : i < n) : byF f X i n % P f ≠ 0 := by
  rw [byF_hi f X i n hi]
  refine pdZ_ne h0 h8 fun j hj => ?_
  unfold othS
  split
  · exact hd i j hi (by omega) (by omega)
  · exact hd i (j + 1) hi (by omega) (by omega)
/-- The i-th term of Lagrange's sum. -/
noncomputable def lagT (f : Int) (X Y : Nat → Int) (n i : Nat) : List Int := scaleL f (vanL f (othS X i) (n - 1)) (RS (Y i * mPower f (byF f X i n) (-1)) (P f))
noncomputable def lagL (f : Int) (X Y : Nat → Int) (n : Nat) : Nat → List Int
  | 0 => []
  | i + 1 => addL f (lagL f X Y n i) (lagT f X Y n i)
theorem lagT_len {f : Int} (h0 : 0 ≤ f) (h8 : f ≤ 8) (X Y : Nat → Int) {n : Nat} (n1 : 1 ≤ n) (i : Nat) : (lagT f X Y n i).length ≤ n := by
  have h1 := scaleL_le f (vanL f (othS X i) (n - 1)) (RS (Y i * mPower f (byF f X i n) (-1)) (P f))
  rw [vanL_len h0 h8] at h1
  unfold lagT
  omega
theorem lagL_len {f : Int} (h0 : 0 ≤ f) (h8 : f ≤ 8) (X Y : Nat → Int) {n : Nat} (n1 : 1 ≤ n) : ∀ i, (lagL f X Y n i).length ≤ n
  | 0 => Nat.zero_le _
  | i + 1 => by
    have h1 := lagL_len h0 h8 X Y n1 i
    have h2 := lagT_len h0 h8 X Y n1 i
    have h3 := addL_le f (lagL f X Y n i) (lagT f X Y n i)
    show (addL f (lagL f X Y n i) (lagT f X Y n i)).length ≤ n
    omega
theorem lagL_pol {f : Int} (h0 : 0 ≤ f) (h8 : f ≤ 8) (X Y : Nat → Int) (n : Nat) : ∀ i, Pol f (lagL f X Y n i)
  | 0 => Pol.nil (by have := P_bd h0 h8; omega)
  | _ + 1 => pol_addL h0 h8 _ _
theorem lagT_ev {f : Int} (h0 : 0 ≤ f) (h8 : f ≤ 8) {X Y : Nat → Int} {n i m : Nat} (hd : DistinctS f X n) (hi : i < n) (hm : m < n) : evL f (X m) (lagT f X Y n i) = if m = i then RS (Y i) (P f) else 0 := by
  unfold lagT
  rw [evL_scale, vanL_ev h0 h8]
  by_cases e : m = i
  · subst e
    rw [if_pos rfl]
    have h1 := byF_hi f X m n hi
    have h2 := inv_mul h0 h8 (byF_ne h0 h8 hd hi)
    obtain ⟨V, hV⟩ : ∃ V, mPower f (byF f X m n) (-1) = V := ⟨_, rfl⟩
    rw [hV] at h2 ⊢
    unfold RS
    have h3 : (pdZ (X m) (othS X m) (n - 1) % P f * (Y m * V % P f)) % P f = (byF f X m n * (Y m * V)) % P f := emod_mul_congr (by rw [Int.emod_emod_of_dvd _ (Int.dvd_refl _)]; exact h1.symm) (Int.emod_emod_of_dvd _ (Int.dvd_refl _))
    rw [h3, show byF f X m n * (Y m * V) = Y m * (V * byF f X m n) by rw [Int.mul_left_comm, Int.mul_comm V]]
    have h4 : (Y m * (V * byF f X m n)) % P f = (Y m * 1) % P f := emod_mul_congr rfl h2
    rw [h4, Int.mul_one]
  · rw [if_neg e]
    have h1 : pdZ (X m) (othS X i) (n - 1) = 0 := by
      by_cases hl : m < i
      · exact pdZ_zero (i := m) (by omega) (by unfold othS; rw [if_pos hl])
      · exact pdZ_zero (i := m - 1) (by omega) (by unfold othS; rw [if_neg (by omega), show m - 1 + 1 = m by omega])
    rw [h1]
    simp [RS]
theorem lagL_ev {f : Int} (h0 : 0 ≤ f) (h8 : f ≤ 8) {X Y : Nat → Int} {n m : Nat} (hd : DistinctS f X n) (hm : m < n) : ∀ i, i ≤ n → evL f (X m) (lagL f X Y n i) = if m < i then RS (Y m) (P f) else 0
  | 0, _ => by
    show evL f (X m) [] = _
    simp [evL, evN, sumN, RS]
  | i + 1, h => by
    show evL f (X m) (addL f (lagL f X Y n i) (lagT f X Y n i)) = _
    rw [evL_add, lagL_ev h0 h8 hd hm i (by omega), lagT_ev h0 h8 hd (by omega) hm]
    by_cases h1 : m < i
    · rw [if_pos h1, if_neg (by omega), if_pos (by omega)]
      simp [RS]
    · rw [if_neg h1]
      by_cases h2 : m = i
      · rw [if_pos h2, if_pos (by omega), h2]
        simp [RS]
      · rw [if_neg h2, if_neg (by omega)]
        simp [RS]
/-- The polynomial through the points. -/
def QInter (f : Int) (X Y : Nat → Int) (n : Nat) (a : List Int) : Prop := Pol f a ∧ a.length ≤ n ∧ ∀ i, i < n → evL f (X i) a = Y i
noncomputable def interL (f : Int) (X Y : Nat → Int) (n : Nat) : List Int := theL (QInter f X Y n)
theorem QInter.unique {f : Int} (h0 : 0 ≤ f) (h8 : f ≤ 8) {X Y : Nat → Int} {n : Nat} (hd : DistinctS f X n) {a b : List Int} (ha : QInter f X Y n a) (hb : QInter f X Y n b) : a = b :=
  through_unique h0 h8 hd ha.1 hb.1 ha.2.1 hb.2.1 fun i hi => by rw [ha.2.2 i hi, hb.2.2 i hi]
theorem interL_eq {f : Int} (h0 : 0 ≤ f) (h8 : f ≤ 8) {X Y : Nat → Int} {n : Nat} (hd : DistinctS f X n) {a : List Int} (h : QInter f X Y n a) : interL f X Y n = a := theL_eq (fun _ _ p q => QInter.unique h0 h8 hd p q) h
theorem lagL_is {f : Int} (h0 : 0 ≤ f) (h8 : f ≤ 8) {X Y : Nat → Int} {n : Nat} (n1 : 1 ≤ n) (hd : DistinctS f X n) (hY : ∀ j, j < n → 0 ≤ Y j ∧ Y j < P f) : QInter f X Y n (lagL f X Y n n) :=
  ⟨lagL_pol h0 h8 X Y n n, lagL_len h0 h8 X Y n1 n, fun i hi => by
    rw [lagL_ev h0 h8 hd hi n (Nat.le_refl _), if_pos hi]
    unfold RS
    exact Int.emod_eq_of_lt (hY i hi).1 (hY i hi).2⟩
theorem interL_lag {f : Int} (h0 : 0 ≤ f) (h8 : f ≤ 8) {X Y : Nat → Int} {n : Nat} (n1 : 1 ≤ n) (hd : DistinctS f X n) (hY : ∀ j, j < n → 0 ≤ Y j ∧ Y j < P f) : interL f X Y n = lagL f X Y n n := interL_eq h0 h8 hd (lagL_is h0 h8 n1 hd hY)
theorem interL_is {f : Int} (h0 : 0 ≤ f) (h8 : f ≤ 8) {X Y : Nat → Int} {n : Nat} (n1 : 1 ≤ n) (hd : DistinctS f X n) (hY : ∀ j, j < n → 0 ≤ Y j ∧ Y j < P f) : QInter f X Y n (interL f X Y n) := by
  rw [interL_lag h0 h8 n1 hd hY]
  exact lagL_is h0 h8 n1 hd hY
/-- What the functions ask. -/
def PtsOk (f : Int) (xs : List Int) : Prop := (0 ≤ f ∧ f ≤ 8) ∧ (1 ≤ xs.length ∧ xs.length ≤ 40) ∧ (∀ j, j < xs.length → 0 ≤ lf xs j ∧ lf xs j < P f) ∧ ∀ i j, i < j → j < xs.length → lf xs i ≠ lf xs j
theorem PtsOk.dist {f : Int} {xs : List Int} (h : PtsOk f xs) : DistinctS f (lf xs) xs.length := distinct_of h.2.2.1 h.2.2.2
def ElsOk (f : Int) (l : List Int) : Prop := ∀ j, j < l.length → 0 ≤ lf l j ∧ lf l j < P f
def InterOk (f : Int) (xs ys : List Int) : Prop := PtsOk f xs ∧ ys.length = xs.length ∧ ElsOk f ys
/-- The word of a message. -/
def encL (f : Int) (xs m : List Int) : List Int := tab xs.length fun i => RS (evN (lf xs i) (lf m) m.length) (P f)
theorem encL_len (f : Int) (xs m : List Int) : (encL f xs m).length = xs.length := tab_len _ _
theorem encL_at {f : Int} {xs m : List Int} {i : Nat} (h : i < xs.length) : lf (encL f xs m) i = RS (evN (lf xs i) (lf m) m.length) (P f) := by unfold encL; rw [lf_tab, if_pos h]
/-- In how many places two lists differ. -/
def difP (a b : List Int) (j : Nat) : Bool := decide (a.length ≤ j) || decide (b.length ≤ j) || (lf a j != lf b j)
def difN (a b : List Int) : Nat := cntN (difP a b) (max a.length b.length)
theorem difN_same {a b : List Int} (h : a.length = b.length) : difN a b = cntN (fun j => lf a j != lf b j) a.length := by
  unfold difN
  rw [← h, Nat.max_self]
  exact cntN_congr fun i hi => by
    unfold difP
    rw [← h]
    simp [show ¬ a.length ≤ i by omega]
/-- A message whose word is near. -/
def QDec (f : Int) (xs ys : List Int) (k : Nat) (m : List Int) : Prop := m.length = k ∧ ElsOk f m ∧ difN (encL f xs m) ys ≤ (xs.length - k) / 2
theorem QDec.unique {f : Int} {xs ys : List Int} {k : Nat} (hp : PtsOk f xs) (hy : ys.length = xs.length) (hk : k ≤ xs.length) {a b : List Int} (ha : QDec f xs ys k a) (hb : QDec f xs ys k b) : a = b := by
  have h0 := hp.1.1
  have h8 := hp.1.2
  have da := ha.2.2
  have db := hb.2.2
  rw [difN_same (by rw [encL_len, hy]), encL_len] at da db
  have hne : cntN (fun j => lf (encL f xs a) j != lf (encL f xs b) j) xs.length ≤ cntN (fun j => lf (encL f xs a) j != lf ys j) xs.length + cntN (fun j => lf (encL f xs b) j != lf ys j) xs.length := cntN_or fun i _ hr => by
    simp only [bne_iff_ne, ne_eq] at hr ⊢
    by_cases e : lf (encL f xs a) i = lf ys i
    · exact .inr fun e2 => hr (e.trans e2.symm)
    · exact .inl e
  have hnot := cntN_not (fun j => lf (encL f xs a) j != lf (encL f xs b) j) xs.length
  obtain ⟨s, s1, s2, _, _⟩ := sel_idx (fun j => !(lf (encL f xs a) j != lf (encL f xs b) j)) xs.length
  have hcnt : k ≤ cntN (fun j => !(lf (encL f xs a) j != lf (encL f xs b) j)) xs.length := by omega
  have hd : DistinctS f (fun j => lf xs (s j)) k := distinct_of (fun j hj => hp.2.2.1 (s j) (s1 j (by omega)).1) fun i j hij hj => by
    have h1 := s2 i j hij (by omega)
    have h2 := (s1 j (by omega)).1
    exact hp.2.2.2 (s i) (s j) h1 h2
  have hv := same_values h0 h8 (A := lf a) (B := lf b) hd fun i hi => by
    have h1 := s1 i (by omega)
    have h2 : lf (encL f xs a) (s i) = lf (encL f xs b) (s i) := by
      have := h1.2
      simp only [Bool.not_eq_true', bne_eq_false_iff_eq] at this
      exact this
    rw [encL_at h1.1, encL_at h1.1, ha.1, hb.1] at h2
    exact h2
  refine list_ext (by rw [ha.1, hb.1]) fun j hj => ?_
  have h1 := hv j (by rw [← ha.1]; exact hj)
  have b1 := ha.2.1 j hj
  have b2 := hb.2.1 j (by rw [hb.1, ← ha.1]; exact hj)
  rwa [Int.emod_eq_of_lt b1.1 b1.2, Int.emod_eq_of_lt b2.1 b2.2] at h1
noncomputable def decL (f : Int) (xs ys : List Int) (k : Nat) : List Int := theL (QDec f xs ys k)
theorem decL_eq {f : Int} {xs ys : List Int} {k : Nat} (hp : PtsOk f xs) (hy : ys.length = xs.length) (hk : k ≤ xs.length) {m : List Int} (h : QDec f xs ys k m) : decL f xs ys k = m := theL_eq (fun _ _ p q => QDec.unique hp hy hk p q) h
/-- The message through k chosen places, with zeros behind. -/
noncomputable def tryL (f : Int) (xs ys : List Int) (k : Nat) (p : Nat → Bool) : List Int := padL (interL f (lf (selL p (lf xs) xs.length)) (lf (selL p (lf ys) xs.length)) k) k
theorem sel_dist {f : Int} {xs : List Int} (hp : PtsOk f xs) (p : Nat → Bool) {k : Nat} (hk : cntN p xs.length = k) : DistinctS f (lf (selL p (lf xs) xs.length)) k := by
  obtain ⟨s, s1, s2, s3, _⟩ := sel_idx p xs.length
  refine distinct_of (fun j hj => ?_) fun i j hij hj => ?_
  · rw [s3 _ j (by omega)]
    exact hp.2.2.1 _ (s1 j (by omega)).1
  · rw [s3 _ j (by omega), s3 _ i (by omega)]
    exact hp.2.2.2 _ _ (s2 i j hij (by omega)) (s1 j (by omega)).1
/-- The message is found at some choice of places. -/
theorem QDec.found {f : Int} {xs ys : List Int} {k : Nat} (hp : PtsOk f xs) (hy : ys.length = xs.length) (_k1 : 1 ≤ k) (hk : k ≤ xs.length) {m : List Int} (h : QDec f xs ys k m) : ∃ s, s < 2 ^ xs.length ∧ cntN (bitP s) xs.length = k ∧ tryL f xs ys k (bitP s) = m := by
  have h0 := hp.1.1
  have h8 := hp.1.2
  have d := h.2.2
  rw [difN_same (by rw [encL_len, hy]), encL_len] at d
  have hnot := cntN_not (fun j => lf (encL f xs m) j != lf ys j) xs.length
  obtain ⟨s, hs, hb⟩ := mask_exists (firstK (fun j => !(lf (encL f xs m) j != lf ys j)) k) xs.length
  have hc : cntN (bitP s) xs.length = k := by
    rw [cntN_congr hb, firstK_cnt]
    omega
  refine ⟨s, hs, hc, ?_⟩
  have hdist := sel_dist hp (bitP s) hc
  obtain ⟨t, t1, _, t3, _⟩ := sel_idx (bitP s) xs.length
  have hpol : Pol f (cutL k (lf m)) := Pol.cut (by have := P_bd h0 h8; omega) fun j hj => h.2.1 j (by rw [h.1]; exact hj)
  have hlen := cutL_le k (lf m)
  have elf : lf (cutL k (lf m)) = lf m := by have := lf_cut_self m; rwa [h.1] at this
  have hQ : QInter f (lf (selL (bitP s) (lf xs) xs.length)) (lf (selL (bitP s) (lf ys) xs.length)) k (cutL k (lf m)) := ⟨hpol, hlen, fun i hi => by
    have h1 := t1 i (by omega)
    have h2 := hb (t i) h1.1
    rw [h1.2] at h2
    have h3 : lf (encL f xs m) (t i) = lf ys (t i) := by
      have h5 : firstK (fun j => !(lf (encL f xs m) j != lf ys j)) k (t i) = true := h2.symm
      unfold firstK at h5
      have h4 : (!(lf (encL f xs m) (t i) != lf ys (t i))) = true := (Bool.and_eq_true_iff.1 h5).1
      simp only [Bool.not_eq_true', bne_eq_false_iff_eq] at h4
      exact h4
    rw [t3 _ i (by omega), t3 _ i (by omega), evL_n hlen, elf]
    rw [encL_at h1.1, h.1] at h3
    exact h3⟩
  unfold tryL
  rw [interL_eq h0 h8 hdist hQ]
  refine list_ext (by rw [padL_len, h.1]) fun j hj => ?_
  rw [lf_padL _ hlen, elf]
end Go.Proofs.YtoonpnfhcmghmaaDoor
namespace Go.Proofs.YtoonpnfhcmghmaaDoor
noncomputable def blameL (f : Int) (xs ys : List Int) (k : Nat) : List Int := selL (fun i => lf (encL f xs (decL f xs ys k)) i != lf ys i) (fun i => (i : Int)) xs.length
theorem InterOk.is {f : Int} {xs ys : List Int} (h : InterOk f xs ys) : QInter f (lf xs) (lf ys) xs.length (interL f (lf xs) (lf ys) xs.length) :=
  interL_is h.1.1.1 h.1.1.2 h.1.2.1.1 h.1.dist fun j hj => h.2.2 j (by rw [h.2.1]; exact hj)
end Go.Proofs.YtoonpnfhcmghmaaDoor
namespace Go.Proofs.YtoonpnfhcmghmaaDoor
theorem emm (x p : Int) : x % p % p = x % p := Int.emod_emod_of_dvd _ (Int.dvd_refl _)
theorem van_at {f : Int} (h0 : 0 ≤ f) (h8 : f ≤ 8) (X : Nat → Int) {n i : Nat} (hi : i < n) : evL f (X i) (vanL f X n) = 0 := by
  rw [vanL_ev h0 h8, pdZ_zero hi rfl]
  exact Int.zero_emod _
end Go.Proofs.YtoonpnfhcmghmaaDoor
namespace Go.Proofs.YtoonpnfhcmghmaaDoor
theorem addL_gt {f : Int} {a b : List Int} (hb : Pol f b) (h : a.length < b.length) : (addL f a b).length = b.length := by
  unfold addL
  rw [cutL_len, Nat.max_eq_right (Nat.le_of_lt h)]
  refine cutN_full (.inr ?_)
  have ht := hb.2
  have hbd := hb.1 (b.length - 1)
  rw [lf_out a (by omega), Int.zero_add]
  unfold RS
  rw [Int.emod_eq_of_lt hbd.1 hbd.2]
  exact ht.resolve_left (by omega)
theorem scaleL_neg_len {f : Int} {b : List Int} (hb : Pol f b) : (scaleL f b (-1)).length = b.length := by
  unfold scaleL
  rw [cutL_len]
  by_cases hz : b.length = 0
  · rw [hz]; rfl
  refine cutN_full (.inr ?_)
  have ht := hb.2.resolve_left hz
  have hbd := hb.1 (b.length - 1)
  unfold RS
  intro e
  have h1 := Int.dvd_of_emod_eq_zero e
  have h2 : P f ∣ lf b (b.length - 1) := by
    rw [Int.mul_neg, Int.mul_one] at h1
    exact (Int.dvd_neg).1 h1
  have := Int.le_of_dvd (by omega) h2
  omega
theorem quo_lenB {f : Int} (h0 : 0 ≤ f) (h8 : f ≤ 8) {a b q r : List Int} (ha : Pol f a) (hb : Pol f b) (hle : b.length ≤ a.length) (h : DivP f a b q r) : q.length + b.length = a.length + 1 := by
  have h1 := div_len h0 h8 hb h
  have hr := h.2.2.1
  by_cases hlt : a.length + 1 ≤ q.length + b.length
  · omega
  · exfalso
    have ht := top_nz h0 h8 ha (by omega)
    rw [h.2.2.2 (a.length - 1), lf_out r (by omega), cv_out (fun j h => lf_out q h) (fun j h => lf_out b h) (by omega)] at ht
    simp at ht
/-- The state of the divisions: two remainders and their factors. -/
def EeaAt (f : Int) (X Y : Nat → Int) (n b : Nat) (r0 r1 v0 v1 : List Int) : Prop :=
  (Pol f r0 ∧ Pol f r1 ∧ Pol f v0 ∧ Pol f v1) ∧ (r1.length < r0.length ∧ v0.length < v1.length ∧ v1.length + r0.length = n + 2 ∧ b ≤ 2 * (r0.length - 1)) ∧ (∀ i, i < n → evL f (X i) r0 = RS (evL f (X i) v0 * Y i) (P f)) ∧ ∀ i, i < n → evL f (X i) r1 = RS (evL f (X i) v1 * Y i) (P f)
theorem evL_one1 {f x : Int} (h0 : 0 ≤ f) (h8 : f ≤ 8) : evL f x [1] = 1 := by
  have hp := P_bd h0 h8
  have e : evN x (lf [1]) 1 = 1 := by
    show 0 + (1 : Int) * x ^ 0 = 1
    rw [Int.pow_zero]; rfl
  show RS (evN x (lf [1]) 1) (P f) = 1
  rw [e]
  exact Int.emod_eq_of_lt (by omega) (by omega)
theorem evL_nil (f x : Int) : evL f x [] = 0 := by simp [evL, evN, sumN, RS]
theorem EeaAt.start {f : Int} (h0 : 0 ≤ f) (h8 : f ≤ 8) {X Y : Nat → Int} {n b : Nat} {c : List Int} (hb : b ≤ 2 * n) (hY : ∀ j, j < n → 0 ≤ Y j ∧ Y j < P f) (h : QInter f X Y n c) : EeaAt f X Y n b (vanL f X n) c [] [1] := by
  have hl := vanL_len h0 h8 X n
  have h1 := h.2.1
  refine ⟨⟨vanL_pol h0 h8 X n, h.1, Pol.nil (P_pos h0 h8), pol_oneL h0 h8⟩, ⟨by omega, by simp, by rw [hl]; simp; omega, by omega⟩, fun i hi => ?_, fun i hi => ?_⟩
  · rw [van_at h0 h8 X hi, evL_nil, Int.zero_mul]
    exact (Int.zero_emod _).symm
  · rw [h.2.2 i hi, evL_one1 h0 h8, Int.one_mul]
    exact (Int.emod_eq_of_lt (hY i hi).1 (hY i hi).2).symm
theorem EeaAt.step {f : Int} (h0 : 0 ≤ f) (h8 : f ≤ 8) {X Y : Nat → Int} {n b : Nat} {r0 r1 v0 v1 q r : List Int} (h : EeaAt f X Y n b r0 r1 v0 v1) (_hz : r1.length ≠ 0) (hb : b ≤ 2 * (r1.length - 1)) (hd : DivP f r0 r1 q r) : EeaAt f X Y n b r1 r v1 (addL f v0 (scaleL f (mulL f q v1) (-1))) := by
  obtain ⟨⟨p1, p2, p3, p4⟩, ⟨l1, l2, l3, l4⟩, e1, e2⟩ := h
  have hq := quo_lenB h0 h8 p1 p2 (Nat.le_of_lt l1) hd
  have hm := mulL_len h0 h8 hd.1 p4 (by omega) (by omega)
  have hs := scaleL_neg_len (pol_mulL h0 h8 q v1)
  have ha := addL_gt (a := v0) (pol_scaleL h0 h8 (mulL f q v1) (-1)) (by omega)
  refine ⟨⟨p2, hd.2.1, p4, pol_addL h0 h8 _ _⟩, ⟨hd.2.2.1, by omega, by omega, hb⟩, e2, fun i hi => ?_⟩
  have h1 : evL f (X i) (addL f (mulL f q r1) r) = evL f (X i) r0 := by rw [div_back h0 h8 p1 hd]
  rw [evL_add, evL_mul, e1 i hi, e2 i hi] at h1
  rw [evL_add, evL_scale, evL_mul]
  have hb2 : 0 ≤ evL f (X i) r ∧ evL f (X i) r < P f := RS_bd (P_pos h0 h8)
  obtain ⟨R, hR⟩ : ∃ R, evL f (X i) r = R := ⟨_, rfl⟩
  obtain ⟨Q, hQ⟩ : ∃ Q, evL f (X i) q = Q := ⟨_, rfl⟩
  obtain ⟨U, hU⟩ : ∃ U, evL f (X i) v0 = U := ⟨_, rfl⟩
  obtain ⟨V, hV⟩ : ∃ V, evL f (X i) v1 = V := ⟨_, rfl⟩
  rw [hR] at hb2
  rw [hR, hQ, hU, hV] at h1
  rw [hR, hQ, hU, hV]
  obtain ⟨y, hy⟩ : ∃ y, Y i = y := ⟨_, rfl⟩
  rw [hy] at h1 ⊢
  unfold RS at h1 ⊢
  have k1 : (Q * (V * y % P f) % P f + R) % P f = (Q * (V * y) + R) % P f := emod_add_congr (by rw [emm]; exact emod_mul_congr rfl (emm _ _)) rfl
  rw [k1] at h1
  have k2 : ((U + Q * V % P f * -1 % P f) % P f * y) % P f = (U * y - Q * (V * y)) % P f := by
    have k3 : ((U + Q * V % P f * -1 % P f) % P f * y) % P f = ((U + Q * V * -1) * y) % P f := by
      refine emod_mul_congr ?_ rfl
      rw [emm]
      refine emod_add_congr rfl ?_
      rw [emm]
      exact emod_mul_congr (emm _ _) rfl
    rw [k3, Int.add_mul, Int.mul_neg, Int.mul_one, Int.neg_mul, Int.mul_assoc]
    rfl
  rw [k2]
  have k4 : R % P f = (U * y - Q * (V * y)) % P f := by
    have k5 : (Q * (V * y) + R - Q * (V * y)) % P f = (U * y - Q * (V * y)) % P f := emod_sub_congr h1 rfl
    rw [← k5]
    congr 1
    omega
  rw [← k4]
  exact (Int.emod_eq_of_lt hb2.1 hb2.2).symm
theorem msg_pol {f : Int} {m : List Int} {k : Nat} (h0 : 0 ≤ f) (h8 : f ≤ 8) (hm : m.length = k) (he : ElsOk f m) : Pol f (cutL k (lf m)) := Pol.cut (P_pos h0 h8) fun j hj => he j (by rw [hm]; exact hj)
theorem lf_cut_k {m : List Int} {k : Nat} (hm : m.length = k) : lf (cutL k (lf m)) = lf m := by
  subst hm
  exact lf_cut_self m
theorem evL_msg {f x : Int} {m : List Int} {k : Nat} (hm : m.length = k) : evL f x (cutL k (lf m)) = RS (evN x (lf m) m.length) (P f) := by
  rw [evL_n (cutL_le k (lf m)), lf_cut_k hm, hm]
/-- Where a message is near, the remainder is its multiple by the factor. -/
theorem EeaAt.found {f : Int} {xs ys : List Int} {k : Nat} (hp : PtsOk f xs) (hy : ys.length = xs.length) (_k1 : 1 ≤ k) (hk : k ≤ xs.length) {r0 r1 v0 v1 m : List Int} (h : EeaAt f (lf xs) (lf ys) xs.length (xs.length + k) r0 r1 v0 v1) (hend : 2 * (r1.length - 1) < xs.length + k) (hm : QDec f xs ys k m) : r1 = mulL f v1 (cutL k (lf m)) := by
  have h0 := hp.1.1
  have h8 := hp.1.2
  obtain ⟨⟨p1, p2, p3, p4⟩, ⟨l1, l2, l3, l4⟩, e1, e2⟩ := h
  have d := hm.2.2
  rw [difN_same (by rw [encL_len, hy]), encL_len] at d
  have hnot := cntN_not (fun j => lf (encL f xs m) j != lf ys j) xs.length
  obtain ⟨s, s1, s2, _, _⟩ := sel_idx (fun j => !(lf (encL f xs m) j != lf ys j)) xs.length
  obtain ⟨N, hN⟩ : ∃ N, cntN (fun j => !(lf (encL f xs m) j != lf ys j)) xs.length = N := ⟨_, rfl⟩
  rw [hN] at hnot s1 s2
  have hd : DistinctS f (fun j => lf xs (s j)) N := distinct_of (fun j hj => hp.2.2.1 (s j) (s1 j (by omega)).1) fun i j hij hj => by
    have h1 := s2 i j hij (by omega)
    have h2 := (s1 j (by omega)).1
    exact hp.2.2.2 (s i) (s j) h1 h2
  have lm := cutL_le k (lf m)
  have lp := mulL_le f v1 (cutL k (lf m))
  refine through_unique h0 h8 hd p2 (pol_mulL h0 h8 _ _) (by omega) (by omega) fun i hi => ?_
  have h1 := s1 i hi
  have h3 : lf (encL f xs m) (s i) = lf ys (s i) := by
    have := h1.2
    simp only [Bool.not_eq_true', bne_eq_false_iff_eq] at this
    exact this
  rw [encL_at h1.1] at h3
  show evL f (lf xs (s i)) r1 = evL f (lf xs (s i)) (mulL f v1 (cutL k (lf m)))
  rw [e2 (s i) h1.1, evL_mul, evL_msg hm.1, h3]
theorem mul_div {f : Int} (h0 : 0 ≤ f) (h8 : f ≤ 8) {v c : List Int} (hc : Pol f c) (hz : v.length ≠ 0) : DivP f (mulL f v c) v c [] := by
  refine ⟨hc, Pol.nil (P_pos h0 h8), by simp; omega, fun j => ?_⟩
  rw [lf_mulL, emm, cv_comm, lf_out [] (Nat.zero_le _), Int.add_zero]
/-- The quotient, cut and padded, is the message. -/
theorem EeaAt.message {f : Int} {xs ys : List Int} {k : Nat} (hp : PtsOk f xs) (hy : ys.length = xs.length) (k1 : 1 ≤ k) (hk : k ≤ xs.length) {r0 r1 v0 v1 m q r : List Int} (h : EeaAt f (lf xs) (lf ys) xs.length (xs.length + k) r0 r1 v0 v1) (hend : 2 * (r1.length - 1) < xs.length + k) (hm : QDec f xs ys k m) (hd : DivP f r1 v1 q r) : padL q k = m := by
  have h0 := hp.1.1
  have h8 := hp.1.2
  have e := h.found hp hy k1 hk hend hm
  have hv := h.2.1.2.1
  rw [e] at hd
  have hq := (DivP.unique h0 h8 h.1.2.2.2 hd (mul_div h0 h8 (msg_pol h0 h8 hm.1 hm.2.1) (by omega))).1
  rw [hq]
  refine list_ext (by rw [padL_len, hm.1]) fun j hj => ?_
  rw [lf_padL _ (cutL_le k (lf m)), lf_cut_k hm.1]
/-- The places where two lists differ. -/
def dfL (a b : List Int) : List Int := selL (difP a b) (fun i => (i : Int)) (max a.length b.length)
theorem difP_comm (a b : List Int) : difP a b = difP b a := funext fun j => by
  unfold difP
  rw [Bool.or_comm (decide (a.length ≤ j)), bne_comm]
theorem difN_comm (a b : List Int) : difN a b = difN b a := by unfold difN; rw [difP_comm, Nat.max_comm]
theorem dfL_enc {f : Int} {xs ys m : List Int} (hy : ys.length = xs.length) : dfL ys (encL f xs m) = selL (fun i => lf (encL f xs m) i != lf ys i) (fun i => (i : Int)) xs.length := by
  unfold dfL
  rw [encL_len, hy, Nat.max_self]
  refine selL_congr _ fun i hi => ?_
  unfold difP
  rw [encL_len, hy, bne_comm]
  simp [show ¬ xs.length ≤ i by omega]
theorem padL_els {f : Int} {q : List Int} {k : Nat} (hq : Pol f q) : ElsOk f (padL q k) := fun j hj => by
  rw [padL_len] at hj
  unfold padL
  rw [lf_tab, if_pos hj]
  exact hq.1 j
/-- What the divisions find: the message, or none that is near. -/
theorem EeaAt.answer {f : Int} {xs ys : List Int} {k : Nat} (hp : PtsOk f xs) (hy : ys.length = xs.length) (k1 : 1 ≤ k) (hk : k ≤ xs.length) {r0 r1 v0 v1 q r : List Int} (h : EeaAt f (lf xs) (lf ys) xs.length (xs.length + k) r0 r1 v0 v1) (hend : 2 * (r1.length - 1) < xs.length + k) (hd : DivP f r1 v1 q r) :
    (difN ys (encL f xs (padL q k)) ≤ (xs.length - k) / 2 → QDec f xs ys k (padL q k) ∧ decL f xs ys k = padL q k ∧ dfL ys (encL f xs (padL q k)) = blameL f xs ys k) ∧ (¬ difN ys (encL f xs (padL q k)) ≤ (xs.length - k) / 2 → ¬ ∃ m, QDec f xs ys k m) := by
  refine ⟨fun hn => ?_, fun hn => ?_⟩
  · have hq : QDec f xs ys k (padL q k) := ⟨padL_len _ _, padL_els hd.1, by rw [difN_comm]; exact hn⟩
    have he := decL_eq hp hy hk hq
    refine ⟨hq, he, ?_⟩
    rw [dfL_enc hy]
    unfold blameL
    rw [he]
  · rintro ⟨m, hm⟩
    have e := h.message hp hy k1 hk hend hm hd
    rw [e] at hn
    have := hm.2.2
    rw [difN_comm] at this
    exact hn this
end Go.Proofs.YtoonpnfhcmghmaaDoor
namespace Go.Proofs.YtoonpnfhcmghmaaDoor
open Go.RowKit
/-- A node at block b: its field, its product at block g, its branches. -/
def NodeW (w : World) (b : Nat) (f : Int) (g n : Nat) (pl pr : Option Addr) : Prop :=
  w.cell? ⟨b, 0, none⟩ = some (.int .i64 f) ∧ w.cell? ⟨b, 1, none⟩ = some (.slice (some ⟨g, 0, none⟩) (n + 1) (n + 1)) ∧ w.cell? ⟨b, 2, none⟩ = some (.pointer pl) ∧ w.cell? ⟨b, 3, none⟩ = some (.pointer pr)
theorem NodeW.lt {w : World} {b g n : Nat} {f : Int} {pl pr : Option Addr} (h : NodeW w b f g n pl pr) : b < w.heap.size := block_lt_of_cell h.1
theorem NodeW.keep {w w' : World} {b g n : Nat} {f : Int} {pl pr : Option Addr} (h : NodeW w b f g n pl pr) {N : Nat} (hb : Below N w w') (hN : b < N) : NodeW w' b f g n pl pr :=
  ⟨(hb.cell (p := ⟨b, 0, none⟩) hN).trans h.1, (hb.cell (p := ⟨b, 1, none⟩) hN).trans h.2.1, (hb.cell (p := ⟨b, 2, none⟩) hN).trans h.2.2.1, (hb.cell (p := ⟨b, 3, none⟩) hN).trans h.2.2.2⟩
/-- A tree over the points X 0, .., X (n - 1), at p; d bounds its depth. -/
def TreeW (f : Int) (w : World) : Nat → Option Addr → (Nat → Int) → Nat → Prop
  | 0, _, _, _ => False
  | d + 1, p, X, n => ∃ b g pl pr, p = some ⟨b, 0, none⟩ ∧ NodeW w b f g n pl pr ∧ Own w g (n + 1) (lf (vanL f X n)) ∧
      ((n = 1 ∧ pl = none ∧ pr = none) ∨ ∃ m k, n = m + k ∧ 1 ≤ m ∧ 1 ≤ k ∧ TreeW f w d pl X m ∧ TreeW f w d pr (fun j => X (m + j)) k)
theorem TreeW.keep {f : Int} {w w' : World} (hb : Below w.heap.size w w') : ∀ {d : Nat} {p : Option Addr} {X : Nat → Int} {n : Nat}, TreeW f w d p X n → TreeW f w' d p X n
  | 0, _, _, _, h => h
  | _ + 1, _, _, _, ⟨b, g, pl, pr, h1, h2, h3, h4⟩ => ⟨b, g, pl, pr, h1, h2.keep hb h2.lt, h3.keep hb, h4.imp id fun ⟨m, k, e, m1, k1, hl, hr⟩ => ⟨m, k, e, m1, k1, TreeW.keep hb hl, TreeW.keep hb hr⟩⟩
theorem TreeW.more {f : Int} {w : World} : ∀ {d d' : Nat} {p : Option Addr} {X : Nat → Int} {n : Nat}, TreeW f w d p X n → d ≤ d' → TreeW f w d' p X n
  | 0, _, _, _, _, h, _ => absurd h (by intro h; exact h)
  | d + 1, 0, _, _, _, _, h2 => absurd h2 (by omega)
  | d + 1, d' + 1, _, _, _, ⟨b, g, pl, pr, h1, h2, h3, h4⟩, hd => ⟨b, g, pl, pr, h1, h2, h3, h4.imp id fun ⟨m, k, e, m1, k1, hl, hr⟩ => ⟨m, k, e, m1, k1, hl.more (by omega), hr.more (by omega)⟩⟩
end Go.Proofs.YtoonpnfhcmghmaaDoor
namespace Go.Proofs.YtoonpnfhcmghmaaDoor
open Go.RowKit
/-- A list in memory of its own, in a row that may have room. -/
def OwnM (w : World) (B : Nat) (a : Option Addr) (l : List Int) (cap : Nat) : Prop :=
  (a = none ∧ cap = 0 ∧ l.length = 0) ∨ ∃ g, a = some ⟨g, 0, none⟩ ∧ B ≤ g ∧ OwnV w g l.length cap (lf l)
theorem OwnM.src {w : World} {B : Nat} {a : Option Addr} {l : List Int} {cap : Nat} (h : OwnM w B a l cap) : Src w a l.length (lf l) := by
  rcases h with ⟨_, _, h⟩ | ⟨g, rfl, _, h⟩
  · exact .inl h
  · exact h.src
theorem OwnM.keep {w w' : World} {B : Nat} {a : Option Addr} {l : List Int} {cap : Nat} (h : OwnM w B a l cap) (hb : Below w.heap.size w w') : OwnM w' B a l cap :=
  h.imp id fun ⟨g, h1, h2, h3⟩ => ⟨g, h1, h2, h3.keep hb⟩
theorem own_to_v {w : World} {g n : Nat} {F : Nat → Int} (h : Own w g n F) : OwnV w g n n F := ⟨_, h, Nat.le_refl _, fun _ _ => rfl⟩
theorem OwnA.m {w : World} {B : Nat} {a : Option Addr} {l : List Int} {cap : Nat} (h : OwnA w B a l cap) : OwnM w B a l cap := by
  rcases h with h | ⟨g, rfl, rfl, hB, h⟩
  · exact .inl h
  · exact .inr ⟨g, rfl, hB, own_to_v h⟩
theorem v_of_block {w w' : World} {g n cap : Nat} {F : Nat → Int} (h : OwnV w g n cap F) (hb : w'.heap[g]? = w.heap[g]?) : OwnV w' g n cap F := by
  obtain ⟨V, h1, h2, h3⟩ := h
  exact ⟨V, World.rowIs.of_block h1 hb, h2, h3⟩
theorem OwnM.after {w w' : World} {B cap : Nat} {a a2 : Option Addr} {l : List Int} (h : OwnM w B a2 l cap) (hg : Grow w w' a) (hl : Lies a B) : OwnM w' B a2 l cap := by
  rcases hg with rfl | ⟨g, rfl, hg⟩
  · exact h
  · have := hl _ rfl
    refine h.imp id fun ⟨g2, h1, h2, h3⟩ => ⟨g2, h1, h2, v_of_block h3 (hg.block g2 h3.lt (fun e => ?_))⟩
    injection e with e
    have : g < B := this
    omega
def OwnLM (w : World) (l : List Int) (e : Ending) (w' : World) : Prop := ∃ a cap, e = .returned (.slice a l.length cap) ∧ OwnM w' w.heap.size a l cap ∧ Below w.heap.size w w'
theorem OwnL.m {w w' : World} {l : List Int} {e : Ending} (h : OwnL w l e w') : OwnLM w l e w' := by
  obtain ⟨a, cap, h1, h2, h3⟩ := h
  exact ⟨a, cap, h1, h2.m, h3⟩
theorem OwnsL.m {w w' : World} {l : List Int} {e : Ending} (h : OwnsL w l e w') : OwnLM w l e w' := by
  obtain ⟨v, rfl, ho, hb⟩ := h
  by_cases hz : l.length = 0
  · rcases ho.2 with ⟨rfl, _⟩ | ⟨g, cap, cur, rfl, hg, hh, hc, hm, hs, _⟩
    · exact ⟨none, 0, by rw [hz], .inl ⟨rfl, rfl, hz⟩, hb⟩
    · refine ⟨some ⟨g, 0, none⟩, cap, rfl, .inr ⟨g, rfl, hg, fun j => (cur[j]?).getD .nilIface, ⟨cur, hh, by omega, fun j hj => ?_⟩, by omega, fun j hj => by omega⟩, hb⟩
      have : j < cur.size := by omega
      simp [this]
  · obtain ⟨g, cap, rfl, hg, hv⟩ := OwnV.of_owns ho hz
    exact ⟨some ⟨g, 0, none⟩, cap, rfl, .inr ⟨g, rfl, hg, hv⟩, hb⟩
end Go.Proofs.YtoonpnfhcmghmaaDoor
namespace Go.Proofs.YtoonpnfhcmghmaaDoor
open Go.RowKit
theorem two_start8 (w : World) (u v u2 v2 : Value) (t t2 : TypeId) : TwoB w.heap.size u v t ((w.alloc (.cells #[u, v] t)).alloc (.cells #[u2, v2] t2)) ∧ TwoB (w.heap.size + 1) u2 v2 t2 ((w.alloc (.cells #[u, v] t)).alloc (.cells #[u2, v2] t2)) ∧ Below w.heap.size w ((w.alloc (.cells #[u, v] t)).alloc (.cells #[u2, v2] t2)) := by
  have hz : (w.alloc (.cells #[u, v] t)).heap.size = w.heap.size + 1 := by simp
  have hb1 := below_alloc (w.alloc (.cells #[u, v] t)) (.cells #[u2, v2] t2)
  have t1 := twoB_new (w.alloc (.cells #[u, v] t)) u2 v2 t2
  rw [hz] at t1
  exact ⟨(twoB_new w u v t).keep hb1 (by omega), t1, below_up (below_alloc w _) hb1 (by omega)⟩
/-- Two structs' cells. -/
def FourT (s p : Nat) (u v x y : Value) (W : World) : Prop := W.cell? ⟨s, 0, none⟩ = some u ∧ W.cell? ⟨s, 1, none⟩ = some v ∧ W.cell? ⟨p, 0, none⟩ = some x ∧ W.cell? ⟨p, 1, none⟩ = some y
theorem FourT.mk {s p : Nat} {u v x y : Value} {W : World} (h : TwoC s u v W) (k : TwoC p x y W) : FourT s p u v x y W := ⟨h.1, h.2, k.1, k.2⟩
theorem FourT.keep {s p b : Nat} {u v x y : Value} {W W' : World} (k : FourT s p u v x y W) (hb : Below b W W') (h1 : s < b) (h2 : p < b) : FourT s p u v x y W' := by
  have h := TwoC.keep ⟨k.1, k.2.1⟩ hb h1
  have h' := TwoC.keep ⟨k.2.2.1, k.2.2.2⟩ hb h2
  exact ⟨h.1, h.2, h'.1, h'.2⟩
theorem FourT.store2 {s p q : Nat} {u v x y : Value} {W : World} (k : FourT s p u v x y W) (x2 y2 : Value) (h1 : s ≠ q) (h2 : p ≠ q) : FourT s p u v x y ((W.setCell ⟨q, 0, none⟩ x2).setCell ⟨q, 1, none⟩ y2) :=
  ⟨by rw [cell_set8 h1, cell_set8 h1]; exact k.1, by rw [cell_set8 h1, cell_set8 h1]; exact k.2.1, by rw [cell_set8 h2, cell_set8 h2]; exact k.2.2.1, by rw [cell_set8 h2, cell_set8 h2]; exact k.2.2.2⟩
/-- Half way: a third struct is made. -/
def MidV (w wr : World) (p g n cap : Nat) (f : Int) (a : Option Addr) (X : List Int) (t : TypeId) : Prop :=
  TwoC w.heap.size (.int .i64 f) (.slice a n cap) wr ∧ TwoB (w.heap.size + 1) (.int .i64 0) (.slice none 0 0) t wr ∧ TwoC p (.int .i64 f) (.slice (some ⟨g, 0, none⟩) X.length X.length) wr ∧ p < wr.heap.size ∧ w.heap.size + 1 < p ∧ g ≠ w.heap.size + 1 ∧ Own wr g X.length (lf X) ∧ Below w.heap.size w wr
theorem MidV.a {w w2 : World} {g n cap : Nat} {f : Int} {a : Option Addr} {X : List Int} {t t2 : TypeId} (k : TwoC w.heap.size (.int .i64 f) (.slice a n cap) w2) (r : TwoB (w.heap.size + 1) (.int .i64 0) (.slice none 0 0) t w2) (hg : g ≠ w.heap.size + 1) (ho : Own w2 g X.length (lf X)) (hb : Below w.heap.size w w2) :
    MidV w (w2.alloc (.cells #[.int .i64 f, .slice (some ⟨g, 0, none⟩) X.length X.length] t2)) w2.heap.size g n cap f a X t := by
  have hb2 := below_alloc w2 (.cells #[.int .i64 f, .slice (some ⟨g, 0, none⟩) X.length X.length] t2)
  have hr := r.lt
  exact ⟨k.keep hb2 (by omega), r.keep hb2 hr, (twoB_new w2 _ _ t2).c, by simp, hr, hg, ho.keep hb2, below_up hb hb2 hb.size⟩
theorem MidV.b {w w2 : World} {p g n cap : Nat} {f : Int} {a : Option Addr} {X : List Int} {t t2 : TypeId} {x y : Value} (q : TwoB p x y t2 w2) (hp : w.heap.size + 1 < p) (hgp : g ≠ p) (k : TwoC w.heap.size (.int .i64 f) (.slice a n cap) w2) (r : TwoB (w.heap.size + 1) (.int .i64 0) (.slice none 0 0) t w2) (hg : g ≠ w.heap.size + 1) (ho : Own w2 g X.length (lf X)) (hb : Below w.heap.size w w2) :
    MidV w ((w2.setCell ⟨p, 0, none⟩ (.int .i64 f)).setCell ⟨p, 1, none⟩ (.slice (some ⟨g, 0, none⟩) X.length X.length)) p g n cap f a X t :=
  ⟨k.store2 _ _ (by omega), ((Below.heap_setCell _ ⟨p, 1, none⟩ _ _ (by show w.heap.size + 1 ≠ p; omega)).trans (Below.heap_setCell _ ⟨p, 0, none⟩ _ _ (by show w.heap.size + 1 ≠ p; omega))).trans r, store_cells q, by have := q.lt; simpa using this, hp, hg, own_store ho hgp, below_store hb (by omega)⟩
set_option maxRecDepth 100000 in
set_option maxHeartbeats 6400000 in
theorem oddValues_c (f : Int) (a : Option Addr) (l : List Int) (cap : Nat) (w : World) (ht : Tab w) (h : OpenOk f l) (hs : Src w a l.length (lf l)) : Calls Tryd.prog 62 #[.agg #[.int .i64 f, .slice a l.length cap]] w (OwnVec f w (ovL f l)) := by
  have hroot := root_bd h.has.1
  have HSR : Hid (∀ W, Below w.heap.size w W → Calls Tryd.prog 109 #[.agg #[.int .i64 f, .slice a l.length cap]] W (IntP W (zL f l))) := Lib.hid fun W hb => splitRoot_c f a l cap W (ht.below hb) h
  have HWG : Hid (∀ W, Below w.heap.size w W → Calls Tryd.prog 108 #[.agg #[.int .i64 f, .slice a l.length cap], .int .i64 (zL f l)] W (OwnVec f W (ptwL f l (pwL f (zL f l) l.length)))) := Lib.hid fun W hb => weighted_c f (zL f l) a l cap W (ht.below hb) h.1 ⟨by unfold zL; omega, hroot.2⟩ (hs.keep hb)
  have hv : VecOk f (ptwL f l (pwL f (zL f l) l.length)) := h.1.ptw
  have HTR : Hid (∀ g W, Below w.heap.size w W → Own W g (ptwL f l (pwL f (zL f l) l.length)).length (lf (ptwL f l (pwL f (zL f l) l.length))) → Calls Tryd.prog 110 #[.int .i64 f, .slice (some ⟨g, 0, none⟩) (ptwL f l (pwL f (zL f l) l.length)).length (ptwL f l (pwL f (zL f l) l.length)).length] W (OwnG W (ovL f l))) := Lib.hid fun g W hb ho => by
    have := transform_c f (some ⟨g, 0, none⟩) _ (ptwL f l (pwL f (zL f l) l.length)).length W (ht.below hb) hv ho.src
    rwa [ov_by_fwd h] at this
  clear hs h ht hv hroot
  generalize ovL f l = R at *
  generalize ptwL f l (pwL f (zL f l) l.length) = X at *
  generalize zL f l = z at *
  generalize l.length = n at *
  obtain ⟨t0, t1, hb2⟩ := two_start8 w (.int .i64 f) (.slice a n cap) (.int .i64 0) (.slice none 0 0) 58 56
  have HB0 := Lib.hid t0
  have HB1 := Lib.hid t1
  clear t0 t1
  go_enter Tryd.func62, Tryd.ntmps62
  go_wp2_with fail
  generalize ((w.alloc (.cells #[.int .i64 f, .slice a n cap] 58)).alloc (.cells #[.int .i64 0, .slice none 0 0] 56)) = W0 at *
  go_cut [3] from 4 (fun p wr => ∃ p3 g3, p = .pointer (some ⟨p3, 0, none⟩) ∧ MidV w wr p3 g3 n cap f a X 56)
  case first =>
    have kb := HB0.out.c
    have k0 : TwoC w.heap.size (.int .i64 f) (.slice a n cap) W0.drew := kb.drew
    have hbd : Below w.heap.size w W0.drew := hb2.drew
    have r0 : TwoB (w.heap.size + 1) (.int .i64 0) (.slice none 0 0) 56 W0.drew := HB1.out
    have hl0 : w.heap.size + 1 < W0.drew.heap.size := r0.lt
    have hba := below_alloc W0 (.cells #[.int .i64 0, .slice none 0 0] 56)
    have hlb : w.heap.size + 1 < W0.heap.size := HB1.out.lt
    have ka : TwoC w.heap.size (.int .i64 f) (.slice a n cap) (W0.alloc (.cells #[.int .i64 0, .slice none 0 0] 56)).drew := (kb.keep hba (show w.heap.size < W0.heap.size by omega)).drew
    have ra : TwoB (w.heap.size + 1) (.int .i64 0) (.slice none 0 0) 56 (W0.alloc (.cells #[.int .i64 0, .slice none 0 0] 56)).drew := (show TwoB _ _ _ _ (W0.alloc (.cells #[.int .i64 0, .slice none 0 0] 56)) from HB1.out.keep hba hlb)
    have hbda : Below w.heap.size w (W0.alloc (.cells #[.int .i64 0, .slice none 0 0] 56)).drew := (below_up hb2 hba hb2.size).drew
    have hla := ra.lt
    have ya : TwoB W0.heap.size (.int .i64 0) (.slice none 0 0) 56 (W0.alloc (.cells #[.int .i64 0, .slice none 0 0] 56)).drew := (show TwoB W0.heap.size (.int .i64 0) (.slice none 0 0) 56 (W0.alloc (.cells #[.int .i64 0, .slice none 0 0] 56)) from twoB_new W0 (.int .i64 0) (.slice none 0 0) 56)
    have hya := ya.lt
    go_region_held3 (fun W => W.cell? ⟨w.heap.size, 0, none⟩ = some (.int .i64 f) ∧ W.cell? ⟨w.heap.size, 1, none⟩ = some (.slice a n cap))
      (first | exact kb | exact k0 | exact ka | exact k1 | exact k1.keep (below_alloc _ _) (by omega) | exact k2 | exact k2.keep (below_alloc _ _) (by omega) | exact k2.store2 _ _ (by omega) | go_keep)
      (first
        | (go_at_call 109; refine (HSR.out _ (by first | exact hbd | exact hbda)).mono ?_; rintro e w1 ⟨rfl, b1⟩; have k1 : TwoC w.heap.size (.int .i64 f) (.slice a n cap) w1 := (by first | exact k0.keep b1 (by omega) | exact ka.keep b1 (by omega)); have c1 : Below w.heap.size w w1 := (by first | exact below_up hbd b1 hbd.size | exact below_up hbda b1 hbda.size); have r1 : TwoB (w.heap.size + 1) (.int .i64 0) (.slice none 0 0) 56 w1 := (by first | exact r0.keep b1 hl0 | exact ra.keep b1 hla); have l1 := r1.lt; (try have y1 := ya.keep b1 hya))
        | (go_at_call 108; refine (HWG.out _ (by first | exact c1 | exact below_up c1 (below_alloc _ _) c1.size)).mono ?_; rintro e w2 ⟨g2, rfl, hg2, o2, b2⟩; have k2 : TwoC w.heap.size (.int .i64 f) (.slice a n cap) w2 := (by first | exact k1.keep b2 (by omega) | exact (k1.keep (below_alloc _ _) (by omega)).keep b2 (Nat.lt_of_lt_of_le (by omega) (below_alloc _ _).size)); have c2 : Below w.heap.size w w2 := (by first | exact below_up c1 b2 c1.size | exact below_up (below_up c1 (below_alloc _ _) c1.size) b2 (below_up c1 (below_alloc _ _) c1.size).size); have r2 : TwoB (w.heap.size + 1) (.int .i64 0) (.slice none 0 0) 56 w2 := (by first | exact r1.keep b2 (by omega) | exact (r1.keep (below_alloc _ _) (by omega)).keep b2 (Nat.lt_of_lt_of_le (by omega) (below_alloc _ _).size)); have l2 := r2.lt; have ng2 : g2 ≠ w.heap.size + 1 := (by (first | omega | (simp at hg2; omega))); (try have y2 := y1.keep b2 y1.lt); (try have y2 := (twoB_new w1 _ _ _).keep b2 (by simp)); (try have yc0 := y2.c.1); (try have yc1 := y2.c.2); (try have yf0 := heap_frozen (j := 0) y2); (try have yf1 := heap_frozen (j := 1) y2)))
    all_goals
      clear kb k0 ka k1 hbd hbda b1 b2 c1 r1 r0 ra hba
      have HO2 := Lib.hid o2
      have HMA : Hid (∀ (t2 : TypeId), MidV w (w2.alloc (.cells #[.int .i64 f, .slice (some ⟨g2, 0, none⟩) X.length X.length] t2)) w2.heap.size g2 n cap f a X 56) := Lib.hid fun t2 => MidV.a k2 r2 ng2 o2 c2
      (try have yl1 := y1.lt)
      (try have HMB := Lib.hid (MidV.b y2 (by omega) (by first | omega | (simp at hg2; omega)) k2 r2 ng2 o2 c2))
      clear k2 r2 o2 c2
      go_wp2_with fail
      go_meet
    all_goals first | exact ⟨_, g2, rfl, HMA.out _⟩ | exact ⟨_, g2, rfl, HMB.out⟩
  case rest =>
    obtain ⟨p3, g3, rfl, k3, r3, q3, lp3, hp3, hg3, o3, hb3⟩ := hcut
    have kk := FourT.mk k3 q3
    have kkd : FourT w.heap.size p3 (.int .i64 f) (.slice a n cap) (.int .i64 f) (.slice (some ⟨g3, 0, none⟩) X.length X.length) wc.drew := kk
    have c3d : Below w.heap.size w wc.drew := hb3.drew
    have l3d : p3 < wc.drew.heap.size := lp3
    have r3d : TwoB (w.heap.size + 1) (.int .i64 0) (.slice none 0 0) 56 wc.drew := r3
    have HPP := Lib.hid (HTR.out g3 wc.drew c3d o3)
    clear HTR HSR HWG HB0 HB1 hb2 k3 q3 o3
    go_wp2_with fail
    go_region_held3 (fun W => W.cell? ⟨w.heap.size, 0, none⟩ = some (.int .i64 f) ∧ W.cell? ⟨w.heap.size, 1, none⟩ = some (.slice a n cap) ∧ W.cell? ⟨p3, 0, none⟩ = some (.int .i64 f) ∧ W.cell? ⟨p3, 1, none⟩ = some (.slice (some ⟨g3, 0, none⟩) X.length X.length))
      (first | exact kk | exact kkd | exact kk4 | exact kk4.store2 _ _ (by omega) (by omega) | go_keep)
      (first
        | (go_at_call 110; refine HPP.out.mono ?_; rintro e w4 ⟨g4, rfl, hg4, o4, b4⟩; have kk4 := kkd.keep b4 (by omega) l3d; have c4 := below_up c3d b4 c3d.size; have r4 := r3d.keep b4 r3d.lt; have rr0 := r4.c.1; have rr1 := r4.c.2; have rf0 := heap_frozen (j := 0) r4; have rf1 := heap_frozen (j := 1) r4; have ne4 : g4 ≠ w.heap.size + 1 := (by (have := r3d.lt; omega)); have HO4 := Lib.hid o4))
    obtain ⟨e0, e1⟩ := store_cells (u := .int .i64 f) (v := .slice (some ⟨g4, 0, none⟩) R.length R.length) r4
    have HF : Hid (OwnVec f w R (.returned (.agg #[.int .i64 f, .slice (some ⟨g4, 0, none⟩) R.length R.length])) ((w4.setCell ⟨w.heap.size + 1, 0, none⟩ (.int .i64 f)).setCell ⟨w.heap.size + 1, 1, none⟩ (.slice (some ⟨g4, 0, none⟩) R.length R.length))) := Lib.hid ⟨g4, rfl, Nat.le_trans c3d.size hg4, own_store HO4.out ne4, below_store c4 (by omega)⟩
    clear kk kkd kk4 r4 rr0 rr1 rf0 rf1 HO4 c4 c3d b4 r3d r3 hb3
    generalize ((w4.setCell ⟨w.heap.size + 1, 0, none⟩ (.int .i64 f)).setCell ⟨w.heap.size + 1, 1, none⟩ (.slice (some ⟨g4, 0, none⟩) R.length R.length)) = W5 at *
    go_wp2
    refine bodyPost_ret (v := .agg #[.int .i64 f, .slice (some ⟨g4, 0, none⟩) R.length R.length]) (by simp [results, Tryd.results62, go_sem, *]) rfl ?_
    exact HF.out
end Go.Proofs.YtoonpnfhcmghmaaDoor
namespace Go.Proofs.YtoonpnfhcmghmaaDoor
open Go.RowKit
set_option maxRecDepth 100000 in
set_option maxHeartbeats 6400000 in
theorem withOdd_c (f : Int) (a : Option Addr) (l : List Int) (cap : Nat) (w : World) (ht : Tab w) (h : OpenOk f l) (hs : Src w a l.length (lf l)) : Calls Tryd.prog 63 #[.agg #[.int .i64 f, .slice a l.length cap]] w (OwnVec f w (obL f l)) := by
  have hroot := root_bd h.has.1
  have h08 := h.1.f08
  have hz : 0 < zL f l ∧ zL f l < P f := hroot
  have HSR : Hid (∀ W, Below w.heap.size w W → Calls Tryd.prog 109 #[.agg #[.int .i64 f, .slice a l.length cap]] W (IntP W (zL f l))) := Lib.hid fun W hb => splitRoot_c f a l cap W (ht.below hb) h
  have HIV : Hid (∀ W, Below w.heap.size w W → Calls Tryd.prog 112 #[.int .i64 f, .int .i64 (zL f l)] W fun e w' => e = .returned (.int .i64 (zvL f l)) ∧ W = w') := Lib.hid fun W hb => by
    have := inverseL_c f (zL f l) W (ht.below hb) h08.1 h08.2 (by omega) hz.2
    rw [inv_pw h08.1 h08.2 hz.1 hz.2] at this
    exact this
  have HTB : Hid (∀ W, Below w.heap.size w W → Calls Tryd.prog 111 #[.int .i64 f, .slice a l.length cap] W (OwnG W (bwdL f l))) := Lib.hid fun W hb => transformBack_c f a l cap W (ht.below hb) h.1 (hs.keep hb)
  have hzv : 0 < zvL f l ∧ zvL f l < P f := invR_bd h.has.1
  have HWG : Hid (∀ g W, Below w.heap.size w W → Own W g (bwdL f l).length (lf (bwdL f l)) → Calls Tryd.prog 108 #[.agg #[.int .i64 f, .slice (some ⟨g, 0, none⟩) (bwdL f l).length (bwdL f l).length], .int .i64 (zvL f l)] W (OwnVec f W (obL f l))) := Lib.hid fun g W hb ho => by
    have := weighted_c f (zvL f l) (some ⟨g, 0, none⟩) (bwdL f l) (bwdL f l).length W (ht.below hb) h.1.bwd ⟨by omega, hzv.2⟩ ho.src
    rw [bwdL_len, ob_by_bwd h] at this
    rw [bwdL_len]
    exact this
  clear hs h ht hroot hz hzv
  generalize obL f l = R at *
  generalize bwdL f l = X at *
  generalize zL f l = z at *
  generalize zvL f l = zv at *
  generalize l.length = n at *
  obtain ⟨t0, t1, hb2⟩ := two_start8 w (.int .i64 f) (.slice a n cap) (.int .i64 0) (.slice none 0 0) 56 58
  have HB0 := Lib.hid t0
  have HB1 := Lib.hid t1
  clear t0 t1
  go_enter Tryd.func63, Tryd.ntmps63
  go_wp2_with fail
  generalize ((w.alloc (.cells #[.int .i64 f, .slice a n cap] 56)).alloc (.cells #[.int .i64 0, .slice none 0 0] 58)) = W0 at *
  go_cut [3] from 4 (fun p wr => ∃ p3 g3, p = .pointer (some ⟨p3, 0, none⟩) ∧ MidV w wr p3 g3 n cap f a X 58)
  case first =>
    have kb := HB0.out.c
    have k0 : TwoC w.heap.size (.int .i64 f) (.slice a n cap) W0.drew := kb.drew
    have hbd : Below w.heap.size w W0.drew := hb2.drew
    have r0 : TwoB (w.heap.size + 1) (.int .i64 0) (.slice none 0 0) 58 W0.drew := HB1.out
    have hl0 : w.heap.size + 1 < W0.drew.heap.size := r0.lt
    have hba := below_alloc W0 (.cells #[.int .i64 0, .slice none 0 0] 56)
    have hlb : w.heap.size + 1 < W0.heap.size := HB1.out.lt
    have ka : TwoC w.heap.size (.int .i64 f) (.slice a n cap) (W0.alloc (.cells #[.int .i64 0, .slice none 0 0] 56)).drew := (kb.keep hba (show w.heap.size < W0.heap.size by omega)).drew
    have ra : TwoB (w.heap.size + 1) (.int .i64 0) (.slice none 0 0) 58 (W0.alloc (.cells #[.int .i64 0, .slice none 0 0] 56)).drew := (show TwoB _ _ _ _ (W0.alloc (.cells #[.int .i64 0, .slice none 0 0] 56)) from HB1.out.keep hba hlb)
    have hbda : Below w.heap.size w (W0.alloc (.cells #[.int .i64 0, .slice none 0 0] 56)).drew := (below_up hb2 hba hb2.size).drew
    have hla := ra.lt
    have ya : TwoB W0.heap.size (.int .i64 0) (.slice none 0 0) 56 (W0.alloc (.cells #[.int .i64 0, .slice none 0 0] 56)).drew := (show TwoB W0.heap.size (.int .i64 0) (.slice none 0 0) 56 (W0.alloc (.cells #[.int .i64 0, .slice none 0 0] 56)) from twoB_new W0 (.int .i64 0) (.slice none 0 0) 56)
    have hya := ya.lt
    go_region_held3 (fun W => W.cell? ⟨w.heap.size, 0, none⟩ = some (.int .i64 f) ∧ W.cell? ⟨w.heap.size, 1, none⟩ = some (.slice a n cap))
      (first | exact kb | exact k0 | exact ka | exact k2 | exact k2.keep (below_alloc _ _) (by omega) | exact k2.store2 _ _ (by omega) | go_keep)
      (first
        | (go_at_call 111; refine (HTB.out _ (by first | exact hbd | exact hbda)).mono ?_; rintro e w2 ⟨g2, rfl, hg2, o2, b2⟩; have k2 : TwoC w.heap.size (.int .i64 f) (.slice a n cap) w2 := (by first | exact k0.keep b2 (by omega) | exact ka.keep b2 (by omega)); have c2 : Below w.heap.size w w2 := (by first | exact below_up hbd b2 hbd.size | exact below_up hbda b2 hbda.size); have r2 : TwoB (w.heap.size + 1) (.int .i64 0) (.slice none 0 0) 58 w2 := (by first | exact r0.keep b2 hl0 | exact ra.keep b2 hla); have l2 := r2.lt; have ng2 : g2 ≠ w.heap.size + 1 := (by omega); (try have y2 := ya.keep b2 hya); (try have yg2 : g2 ≠ W0.heap.size := Nat.ne_of_gt (Nat.lt_of_lt_of_le hya hg2)); (try have yc0 := y2.c.1); (try have yc1 := y2.c.2); (try have yf0 := heap_frozen (j := 0) y2); (try have yf1 := heap_frozen (j := 1) y2)))
    all_goals
      clear kb k0 ka hbd hbda b2 r0 ra hba
      have HO2 := Lib.hid o2
      have HMA : Hid (∀ (t2 : TypeId), MidV w (w2.alloc (.cells #[.int .i64 f, .slice (some ⟨g2, 0, none⟩) X.length X.length] t2)) w2.heap.size g2 n cap f a X 58) := Lib.hid fun t2 => MidV.a k2 r2 ng2 o2 c2
      (try have HMB := Lib.hid (MidV.b y2 (by omega) yg2 k2 r2 ng2 o2 c2))
      clear k2 r2 o2 c2
      go_wp2_with fail
      go_meet
    all_goals first | exact ⟨_, g2, rfl, HMA.out _⟩ | exact ⟨_, g2, rfl, HMB.out⟩
  case rest =>
    obtain ⟨p3, g3, rfl, k3, r3, q3, lp3, hp3, hg3, o3, hb3⟩ := hcut
    have kk := FourT.mk k3 q3
    have kkd : FourT w.heap.size p3 (.int .i64 f) (.slice a n cap) (.int .i64 f) (.slice (some ⟨g3, 0, none⟩) X.length X.length) wc.drew := kk
    have c3d : Below w.heap.size w wc.drew := hb3.drew
    have l3d : p3 < wc.drew.heap.size := lp3
    have r3d : TwoB (w.heap.size + 1) (.int .i64 0) (.slice none 0 0) 58 wc.drew := r3
    have o3d : Own wc.drew g3 X.length (lf X) := o3
    clear HTB HB0 HB1 hb2 k3 q3
    go_wp2_with fail
    go_region_held3 (fun W => W.cell? ⟨w.heap.size, 0, none⟩ = some (.int .i64 f) ∧ W.cell? ⟨w.heap.size, 1, none⟩ = some (.slice a n cap) ∧ W.cell? ⟨p3, 0, none⟩ = some (.int .i64 f) ∧ W.cell? ⟨p3, 1, none⟩ = some (.slice (some ⟨g3, 0, none⟩) X.length X.length))
      (first | exact kk | exact kkd | exact kk1 | exact kk4 | exact kk4.store2 _ _ (by omega) (by omega) | go_keep)
      (first
        | (go_at_call 109; refine (HSR.out _ c3d).mono ?_; rintro e w1 ⟨rfl, b1⟩; have kk1 := kkd.keep b1 (by omega) l3d; have c1 := below_up c3d b1 c3d.size; have r1 := r3d.keep b1 r3d.lt; have o1 := o3d.keep b1; have l1 : p3 < w1.heap.size := (by (have := b1.size; omega)))
        | (go_at_call 112; refine (HIV.out _ c1).mono ?_; rintro e w' ⟨rfl, rfl⟩)
        | (go_at_call 108; refine (HWG.out g3 _ c1 o1).mono ?_; rintro e w4 ⟨g4, rfl, hg4, o4, b4⟩; have kk4 := kk1.keep b4 (by omega) l1; have c4 := below_up c1 b4 c1.size; have r4 := r1.keep b4 r1.lt; have rr0 := r4.c.1; have rr1 := r4.c.2; have rf0 := heap_frozen (j := 0) r4; have rf1 := heap_frozen (j := 1) r4; have ne4 : g4 ≠ w.heap.size + 1 := (by (have := r1.lt; omega)); have HO4 := Lib.hid o4))
    obtain ⟨e0, e1⟩ := store_cells (u := .int .i64 f) (v := .slice (some ⟨g4, 0, none⟩) R.length R.length) r4
    have HF : Hid (OwnVec f w R (.returned (.agg #[.int .i64 f, .slice (some ⟨g4, 0, none⟩) R.length R.length])) ((w4.setCell ⟨w.heap.size + 1, 0, none⟩ (.int .i64 f)).setCell ⟨w.heap.size + 1, 1, none⟩ (.slice (some ⟨g4, 0, none⟩) R.length R.length))) := Lib.hid ⟨g4, rfl, Nat.le_trans c1.size hg4, own_store HO4.out ne4, below_store c4 (by omega)⟩
    clear kk kkd kk1 kk4 r4 rr0 rr1 rf0 rf1 HO4 c4 c3d c1 b4 b1 r3d r3 r1 hb3 o1 o3 o3d HSR HIV HWG
    generalize ((w4.setCell ⟨w.heap.size + 1, 0, none⟩ (.int .i64 f)).setCell ⟨w.heap.size + 1, 1, none⟩ (.slice (some ⟨g4, 0, none⟩) R.length R.length)) = W5 at *
    go_wp2
    refine bodyPost_ret (v := .agg #[.int .i64 f, .slice (some ⟨g4, 0, none⟩) R.length R.length]) (by simp [results, Tryd.results63, go_sem, *]) rfl ?_
    exact HF.out
theorem field_el (f : Int) (a : Option Addr) (n c : Nat) (w : World) : (Instr.field 56 (.agg #[.int .i64 f, .slice a n c]) 1).run Tryd.prog w = .ok (.slice a n c) w := by kernel_rfl
theorem field_vec (f : Int) (a : Option Addr) (n c : Nat) (w : World) : (Instr.field 58 (.agg #[.int .i64 f, .slice a n c]) 0).run Tryd.prog w = .ok (.agg #[.int .i64 f, .slice a n c]) w := by kernel_rfl
theorem isSplit_c (f : Int) (a : Option Addr) (l : List Int) (cap : Nat) (w : World) (hn : l.length ≤ 1048576) (hs : Src w a l.length (lf l)) (ht : Tab w) : Calls Tryd.prog 61 #[.int .i64 f, .slice a l.length cap] w (SameB w (mOpen f l)) := by
  have hV := iVectorOk f a l cap w hn hs ht
  by_cases h : VecOk f l
  · rw [vok_iff.2 h] at hV
    have HV := Lib.hid hV
    have h9 : 0 ≤ mLog l.length ∧ mLog l.length ≤ 9 := by
      obtain ⟨k, hk, _, hl, _⟩ := h.log
      omega
    have qL : IntKind.i64.wrap (mLog l.length + 1) = mLog l.length + 1 := IntWalk.i64_in _ (by omega)
    by_cases hT : mLog l.length + 1 ≤ T f
    · rw [open_iff.2 ⟨h, hT⟩]
      have HR := Lib.hid (hasRoot_yes f (mLog l.length + 1) w ht ((hasK_iff _ _).2 ⟨by omega, hT⟩))
      clear hs h hV
      go_enter Tryd.func61, Tryd.ntmps61
      go_wp2_with fail
      refine HV.out.mono ?_
      rintro e w' ⟨rfl, rfl⟩
      go_wp2_with fail
      refine (iLogOf l.length w).mono ?_
      rintro e w' ⟨rfl, rfl⟩
      generalize mLog l.length = L at *
      go_wp2_with fail
      refine HR.out.mono ?_
      rintro e w' ⟨rfl, rfl⟩
      go_wp2
      go_ret
      exact ⟨rfl, rfl⟩
    · rw [open_not.2 fun x => hT x.2]
      have HR := Lib.hid (hasRoot_no f (mLog l.length + 1) w ht (fun x => hT ((hasK_iff _ _).1 x).2))
      clear hs h hV
      go_enter Tryd.func61, Tryd.ntmps61
      go_wp2_with fail
      refine HV.out.mono ?_
      rintro e w' ⟨rfl, rfl⟩
      go_wp2_with fail
      refine (iLogOf l.length w).mono ?_
      rintro e w' ⟨rfl, rfl⟩
      generalize mLog l.length = L at *
      go_wp2_with fail
      refine HR.out.mono ?_
      rintro e w' ⟨rfl, rfl⟩
      go_wp2
      go_ret
      exact ⟨rfl, rfl⟩
  · rw [vok_not.2 h] at hV
    have HV := Lib.hid hV
    rw [open_not.2 fun x => h x.1]
    clear hs h hV
    go_enter Tryd.func61, Tryd.ntmps61
    go_wp2_with fail
    refine HV.out.mono ?_
    rintro e w' ⟨rfl, rfl⟩
    go_wp2
    go_ret
    exact ⟨rfl, rfl⟩
theorem OwnVec.to {f : Int} {u w w' : World} {l : List Int} {e : Ending} (h : OwnVec f w l e w') (hb : Below u.heap.size u w) : ∃ g, e = .returned (.agg #[.int .i64 f, .slice (some ⟨g, 0, none⟩) l.length l.length]) ∧ OwnL u l (.returned (.slice (some ⟨g, 0, none⟩) l.length l.length)) w' := by
  obtain ⟨g, he, hg, ho, hb2⟩ := h
  exact ⟨g, he, OwnG.own ⟨g, rfl, Nat.le_trans hb.size hg, ho, below_up hb hb2 hb.size⟩⟩
theorem nil_own (w : World) : OwnL w [] (.returned (.slice none 0 0)) w := ⟨none, 0, rfl, OwnA.nil rfl, Below.refl _ _⟩
theorem iOddValues (f : Int) (a : Option Addr) (l : List Int) (cap : Nat) (w : World) (hn : l.length ≤ 1048576) (hs : Src w a l.length (lf l)) (ht : Tab w) : Calls Tryd.prog 25 #[.int .i64 f, .slice a l.length cap] w (OwnL w (mOddValues f l)) := by
  have hV := isSplit_c f a l cap w hn hs ht
  by_cases h : OpenOk f l
  · rw [show mOddValues f l = ovL f l by unfold mOddValues; rw [if_pos h]]
    rw [open_iff.2 h] at hV
    have HV := Lib.hid hV
    have HO : Hid (∀ W, Below w.heap.size w W → Calls Tryd.prog 62 #[.agg #[.int .i64 f, .slice a l.length cap]] W (OwnVec f W (ovL f l))) := Lib.hid fun W hb => oddValues_c f a l cap W (ht.below hb) h (hs.keep hb)
    clear hs h hV
    generalize ovL f l = R at *
    have hfe := field_el
    have hfv := field_vec
    go_enter Tryd.func25, Tryd.ntmps25
    go_wp2_with fail
    refine HV.out.mono ?_
    rintro e w' ⟨rfl, rfl⟩
    go_wp2_with fail
    refine (ringOf_c f a l.length cap w).mono ?_
    rintro e w1 ⟨rfl, b1⟩
    go_wp2_with fail
    refine (HO.out w1 b1).mono ?_
    rintro e w2 h2
    obtain ⟨g, rfl, h3⟩ := h2.to b1
    have HF := Lib.hid h3
    clear h3 HV HO h2
    go_wp2
    go_ret
    exact HF.out
  · rw [show mOddValues f l = [] by unfold mOddValues; rw [if_neg h]]
    rw [open_not.2 h] at hV
    have HV := Lib.hid hV
    clear hs h hV
    have hfe := field_el
    have hfv := field_vec
    go_enter Tryd.func25, Tryd.ntmps25
    go_wp2_with fail
    refine HV.out.mono ?_
    rintro e w' ⟨rfl, rfl⟩
    go_wp2
    go_ret
    exact nil_own w
theorem iOddBack (f : Int) (a : Option Addr) (l : List Int) (cap : Nat) (w : World) (hn : l.length ≤ 1048576) (hs : Src w a l.length (lf l)) (ht : Tab w) : Calls Tryd.prog 26 #[.int .i64 f, .slice a l.length cap] w (OwnL w (mOddBack f l)) := by
  have hV := isSplit_c f a l cap w hn hs ht
  by_cases h : OpenOk f l
  · rw [show mOddBack f l = obL f l by unfold mOddBack; rw [if_pos h]]
    rw [open_iff.2 h] at hV
    have HV := Lib.hid hV
    have HO := Lib.hid (withOdd_c f a l cap w ht h hs)
    clear hs h hV
    generalize obL f l = R at *
    have hfe := field_el
    have hfv := field_vec
    go_enter Tryd.func26, Tryd.ntmps26
    go_wp2_with fail
    refine HV.out.mono ?_
    rintro e w' ⟨rfl, rfl⟩
    go_wp2_with fail
    refine HO.out.mono ?_
    rintro e w2 h2
    obtain ⟨g, rfl, h3⟩ := h2.to (Below.refl _ _)
    have HF := Lib.hid h3
    clear h3 HV HO h2
    go_wp2
    go_ret
    exact HF.out
  · rw [show mOddBack f l = [] by unfold mOddBack; rw [if_neg h]]
    rw [open_not.2 h] at hV
    have HV := Lib.hid hV
    clear hs h hV
    have hfe := field_el
    have hfv := field_vec
    go_enter Tryd.func26, Tryd.ntmps26
    go_wp2_with fail
    refine HV.out.mono ?_
    rintro e w' ⟨rfl, rfl⟩
    go_wp2
    go_ret
    exact nil_own w
theorem iNorm (f : Int) (a : Option Addr) (l : List Int) (cap : Nat) (w : World) (hn : l.length ≤ 1048576) (hs : Src w a l.length (lf l)) (ht : Tab w) : Calls Tryd.prog 28 #[.int .i64 f, .slice a l.length cap] w (IntP w (mNorm f l)) := by
  have hV := isSplit_c f a l cap w hn hs ht
  by_cases h : OpenOk f l
  · rw [show mNorm f l = prF f (lf (ovL f l)) (ovL f l).length by unfold mNorm; rw [if_pos h]; unfold nmL; rw [ovL_len]]
    rw [open_iff.2 h] at hV
    have HV := Lib.hid hV
    have hov := h.1.ov
    have h08 := h.1.f08
    have h5 := hov.pos.2
    have HO : Hid (∀ W, Below w.heap.size w W → Calls Tryd.prog 62 #[.agg #[.int .i64 f, .slice a l.length cap]] W (OwnVec f W (ovL f l))) := Lib.hid fun W hb => oddValues_c f a l cap W (ht.below hb) h (hs.keep hb)
    have HP : Hid (∀ g W, Below w.heap.size w W → Own W g (ovL f l).length (lf (ovL f l)) → Calls Tryd.prog 65 #[.agg #[.int .i64 f, .slice (some ⟨g, 0, none⟩) (ovL f l).length (ovL f l).length]] W (IntP W (prF f (lf (ovL f l)) (ovL f l).length))) := Lib.hid fun g W hb ho => product8_c f (some ⟨g, 0, none⟩) _ _ (lf (ovL f l)) W (ht.below hb) h08 (fun j _ => hov.lt j) h5 ho.src
    clear hs h hV hov h5
    generalize ovL f l = R at *
    generalize prF f (lf R) R.length = N at *
    go_enter Tryd.func28, Tryd.ntmps28
    go_wp2_with fail
    refine HV.out.mono ?_
    rintro e w' ⟨rfl, rfl⟩
    go_wp2_with fail
    refine (ringOf_c f a l.length cap w).mono ?_
    rintro e w1 ⟨rfl, b1⟩
    go_wp2_with fail
    refine (HO.out w1 b1).mono ?_
    rintro e w2 ⟨g, rfl, hg, o2, b2⟩
    have c2 := below_up b1 b2 b1.size
    have HPP := Lib.hid (HP.out g w2 c2 o2)
    clear o2 HV HO HP b1 b2
    go_wp2_with fail
    refine HPP.out.mono ?_
    rintro e w3 ⟨rfl, b3⟩
    have c3 := below_up c2 b3 c2.size
    go_wp2
    go_ret
    exact ⟨rfl, c3⟩
  · rw [show mNorm f l = -1 by unfold mNorm; rw [if_neg h]]
    rw [open_not.2 h] at hV
    have HV := Lib.hid hV
    clear hs h hV
    go_enter Tryd.func28, Tryd.ntmps28
    go_wp2_with fail
    refine HV.out.mono ?_
    rintro e w' ⟨rfl, rfl⟩
    go_wp2
    go_ret
    exact ⟨rfl, Below.refl _ _⟩
end Go.Proofs.YtoonpnfhcmghmaaDoor
namespace Go.Proofs.YtoonpnfhcmghmaaDoor
open Go.RowKit
theorem exp_int {n : Nat} (hn : 0 < n) (g : Int) : (g.tmod (2 * (n : Int)) + 2 * (n : Int)).tmod (2 * (n : Int)) = (expN n g : Int) ∧ -(2 * (n : Int)) < g.tmod (2 * (n : Int)) ∧ g.tmod (2 * (n : Int)) < 2 * (n : Int) := by
  have h := turn_int (n := 2 * n) (by omega) g
  have e : ((2 * n : Nat) : Int) = 2 * (n : Int) := by omega
  rw [e] at h
  exact h
theorem odd_tmod {g : Int} : g.tmod 2 = 0 ↔ g % 2 = 0 :=
  ⟨fun h => Int.emod_eq_zero_of_dvd (Int.dvd_of_tmod_eq_zero h), fun h => Int.tmod_eq_zero_of_dvd (Int.dvd_of_emod_eq_zero h)⟩
set_option maxRecDepth 100000 in
set_option maxHeartbeats 1600000 in
theorem sAutomorph_on (f r : Int) (b off n cap B : Nat) (A : Nat → Int) (w : World) (HV : Hid (Calls Tryd.prog 14 #[.int .i64 f, .slice (some ⟨b, off, none⟩) n cap] w (SameB w true))) (h08 : 0 ≤ f ∧ f ≤ 8) (hA : ∀ j, 0 ≤ A j ∧ A j < P f) (n0 : 0 < n) (hn5 : n ≤ 512) (h2 : ∃ k, n = 2 ^ k) (hr : r % 2 ≠ 0) (hB : B = expN n r) (hlt : b < w.heap.size)
    (hc : ∀ j, j < n → w.cell? ⟨b, off + j, none⟩ = some (.int .i64 (A j))) :
    Calls Tryd.prog 50 #[.int .i64 f, .slice (some ⟨b, off, none⟩) n cap, .int .i64 r] w (ListL w (tab n fun t => RS (sgF n A (t * B ^ (n - 1))) (P f))) := by
  have HCP := Lib.hid (copy_c (some ⟨b, off, none⟩) n cap A w (by omega) (.inr ⟨b, off, rfl, hlt, hc⟩))
  have HC := Lib.hid hc
  obtain ⟨t1, t2, t3⟩ := exp_int n0 r
  have hBn : B < 2 * n := by rw [hB]; exact expN_lt n0 r
  have hBo : B % 2 = 1 := by rw [hB]; exact expN_odd n0 hr
  rw [← hB] at t1
  have kz : ((2 * (n : Int)) == 0) = false := by rw [beq_eq_false_iff_ne]; omega
  have kz2 : ¬ (2 * (n : Int)) = 0 := by omega
  have qa : IntKind.i64.wrap (r.tmod (2 * (n : Int))) = r.tmod (2 * (n : Int)) := IntWalk.i64_in _ (by omega)
  have qb : IntKind.i64.wrap (r.tmod (2 * (n : Int)) + 2 * (n : Int)) = r.tmod (2 * (n : Int)) + 2 * (n : Int) := IntWalk.i64_in _ (by omega)
  have hr2 : (r.tmod 2 == 0) = false := by rw [beq_eq_false_iff_ne]; exact fun h => hr (odd_tmod.1 h)
  have hr3 : ¬ r.tmod 2 = 0 := fun h => hr (odd_tmod.1 h)
  have HO := Lib.hid (show B % 2 = 1 from hBo)
  have H2 := Lib.hid h2
  have HA := Lib.hid hA
  have HSTEP : Hid (∀ k t, k < n → t < n → (if t = auQ n B k then auV f n B k A else auP f n B k A A t) = auP f n B (k + 1) A A t) := Lib.hid fun k t hk ht => au_step A n0 h2 hBo hk (hA k) ht
  clear hc hr hB hBo h2 hA
  go_enter Tryd.func50, Tryd.ntmps50
  go_wp2_with fail
  refine HV.out.mono ?_
  rintro e w' ⟨rfl, rfl⟩
  clear HV
  go_wp2_with fail
  refine HCP.out.mono ?_
  rintro e w1 ⟨v1, rfl, ho1, hb1⟩
  obtain ⟨g, cap1, rfl, hg, hov⟩ := OwnV.of_owns ho1 (by omega)
  have HOV : Hid (OwnV w1 g n cap1 (auP f n B 0 A A)) := Lib.hid (hov.congr fun j _ => (au_start f n B A A j).symm)
  clear ho1 hov HCP qa qb t1 t2 t3 hr2 hr3
  go_wp2_with fail
  go_loopw [10, 11] (fun i _ wr => ∃ k : Nat, i = .int .i64 k ∧ k ≤ n ∧ OwnV wr g n cap1 (auP f n B k A A) ∧ Below w.heap.size w wr) (fun i _ _ => n - (intOf i).toNat)
  case atStart => exact ⟨0, rfl, Nat.zero_le _, HOV.out, hb1⟩
  case round =>
    clear HOV
    obtain ⟨k, rfl, hk, ho, hb⟩ := hrel
    by_cases h1 : k < n
    · have hd1 : decide ((k : Int) < n) = true := decide_eq_true (by omega)
      have c1 : wr.cell? ⟨b, off + k, none⟩ = some (.int .i64 (A k)) := (hb.cell (p := ⟨b, off + k, none⟩) hlt).trans (HC.out k h1)
      obtain ⟨KM, hKM⟩ : ∃ KM : Nat, KM = k * B := ⟨_, rfl⟩
      have kb : KM ≤ 512 * 1024 := by rw [hKM]; exact Nat.mul_le_mul (by omega) (by omega)
      have km : (k : Int) * (B : Int) = (KM : Int) := by rw [hKM, Int.natCast_mul]
      have hS := fun t => HSTEP.out k t h1
      unfold auQ auV at hS
      rw [← hKM] at hS
      clear hKM
      have hU : KM % (2 * n) < 2 * n := Nat.mod_lt _ (by omega)
      have qc : IntKind.i64.wrap ((k : Int) * (B : Int)) = (KM : Int) := by rw [km]; exact IntWalk.i64_in _ (by omega)
      have tm : (KM : Int).tmod (2 * (n : Int)) = ((KM % (2 * n) : Nat) : Int) := by
        rw [Int.tmod_eq_emod_of_nonneg (by omega), Int.natCast_emod]; rfl
      generalize KM % (2 * n) = U at *
      have q5 : IntKind.i64.wrap ((U : Nat) : Int) = ((U : Nat) : Int) := IntWalk.i64_in _ (by omega)
      have hsz : w.heap.size ≤ g := by have := hb1.size; omega
      by_cases hUn : U < n
      · have hdu : decide ((U : Int) < n) = true := decide_eq_true (by omega)
        simp only [if_pos hUn] at hS
        have HS1 : Hid (OwnV (wr.setCell ⟨g, U, none⟩ (.int .i64 (A k))) g n cap1 (auP f n B (k + 1) A A)) := Lib.hid ((OwnV.set (s := U) (x := A k) ho).congr fun t ht => hS t ht)
        have HS3 := Lib.hid (hb.setCell (p := ⟨g, U, none⟩) hsz (.int .i64 (A k)))
        have cU := ho.cell hUn
        have fU := ho.frozen U
        have q2 : ((U : Nat) : Int).toNat = U := by omega
        have q3 : (0 : Int) ≤ ((U : Nat) : Int) := by omega
        have q4 : ((U : Nat) : Int) < n := by omega
        clear ho hS km
        generalize auP f n B k A A U = OLD at *
        go_wp2
        go_roundw
        case rel => exact ⟨k + 1, by go_num, by omega, HS1.out, HS3.out⟩
        case measure => simp [intOf]; omega
      · have hdu : decide ((U : Int) < n) = false := decide_eq_false (by omega)
        simp only [if_neg hUn] at hS
        obtain ⟨Q, hQ⟩ : ∃ Q, Q = U - n := ⟨_, rfl⟩
        rw [← hQ] at hS
        have hQn : Q < n := by omega
        obtain ⟨X, hX⟩ : ∃ X, RS (0 - A k) (P f) = X := ⟨_, rfl⟩
        rw [hX] at hS
        have HS1 : Hid (OwnV (wr.setCell ⟨g, Q, none⟩ (.int .i64 X)) g n cap1 (auP f n B (k + 1) A A)) := Lib.hid ((OwnV.set (s := Q) (x := X) ho).congr fun t ht => hS t ht)
        have HS3 := Lib.hid (hb.setCell (p := ⟨g, Q, none⟩) hsz (.int .i64 X))
        have HM : Hid (mSub f 0 (A k) = X) := Lib.hid (by unfold mSub; rw [if_pos h08, hX])
        clear hX
        have cU := ho.cell hQn
        have fU := ho.frozen Q
        have e1 : (U : Int) - n = (Q : Int) := by omega
        have q2 : ((Q : Nat) : Int).toNat = Q := by omega
        have q3 : (0 : Int) ≤ ((Q : Nat) : Int) := by omega
        have q4 : ((Q : Nat) : Int) < n := by omega
        have q6 : IntKind.i64.wrap ((U : Int) - n) = (Q : Int) := by rw [e1]; exact IntWalk.i64_in _ (by omega)
        clear ho hS km hQ
        generalize auP f n B k A A Q = OLD at *
        go_wp2_with fail
        refine (sSub f 0 (A k) wr).mono ?_
        rintro e w' ⟨rfl, rfl⟩
        rw [HM.out]
        go_wp2
        go_roundw
        case rel => exact ⟨k + 1, by go_num, by omega, HS1.out, HS3.out⟩
        case measure => simp [intOf]; omega
    · have hd1 : decide ((k : Int) < n) = false := decide_eq_false (by omega)
      obtain rfl : k = n := by omega
      have HF : Hid (Src wr (some ⟨g, 0, none⟩) (tab k fun t => RS (sgF k A (t * B ^ (k - 1))) (P f)).length (lf (tab k fun t => RS (sgF k A (t * B ^ (k - 1))) (P f)))) := Lib.hid (by
        rw [tab_len]
        refine (ho.congr (G := lf (tab k fun t => RS (sgF k A (t * B ^ (k - 1))) (P f))) fun t ht => ?_).src
        rw [lf_tab, if_pos ht, au_end f n0])
      have HLEN : Hid ((tab k fun t => RS (sgF k A (t * B ^ (k - 1))) (P f)).length = k) := Lib.hid (tab_len _ _)
      clear ho
      go_wp2
      go_ret
      exact ⟨_, cap1, by rw [HLEN.out]; rfl, HF.out, hb⟩
theorem sAutomorph (f : Int) (a : Option Addr) (l : List Int) (cap : Nat) (g : Int) (w : World) (hn : l.length ≤ 1048576) (hs : Src w a l.length (lf l)) : Calls Tryd.prog 50 #[.int .i64 f, .slice a l.length cap, .int .i64 g] w (ListL w (mAutomorph f l g)) := by
  have hV := sVectorOk f a l cap w hn hs
  by_cases h : VecOk f l
  · rw [vok_iff.2 h] at hV
    by_cases hg : g % 2 = 0
    · rw [show mAutomorph f l g = [] by unfold mAutomorph; rw [if_neg fun x => x.2 hg]]
      have HV := Lib.hid hV
      have hr3 : g.tmod 2 = 0 := odd_tmod.2 hg
      clear hs h hV hg
      go_enter Tryd.func50, Tryd.ntmps50
      go_wp2_with fail
      refine HV.out.mono ?_
      rintro e w' ⟨rfl, rfl⟩
      go_wp2
      go_ret
      exact ⟨none, 0, rfl, .inl rfl, Below.refl _ _⟩
    · rw [show mAutomorph f l g = autL f l (expN l.length g) by unfold mAutomorph; rw [if_pos ⟨h, hg⟩]]
      obtain ⟨b, off, rfl, hlt, hc⟩ := vec_some hs h.pos.1
      exact sAutomorph_on f g b off l.length cap (expN l.length g) (lf l) w (Lib.hid hV) h.f08 h.lt h.pos.1 h.pos.2 h.pow2 hg rfl hlt hc
  · rw [show mAutomorph f l g = [] by unfold mAutomorph; rw [if_neg fun x => h x.1]]
    rw [vok_not.2 h] at hV
    have HV := Lib.hid hV
    clear hs h hV
    go_enter Tryd.func50, Tryd.ntmps50
    go_wp2_with fail
    refine HV.out.mono ?_
    rintro e w' ⟨rfl, rfl⟩
    go_wp2
    go_ret
    exact ⟨none, 0, rfl, .inl rfl, Below.refl _ _⟩
end Go.Proofs.YtoonpnfhcmghmaaDoor
namespace Go.Proofs.YtoonpnfhcmghmaaDoor
open Go.RowKit
theorem poly_one : cutL 1 (fun _ => (1 : Int)) = [1] := by
  refine list_ext ?_ fun j hj => ?_
  · decide
  · have : j = 0 := by have h1 := cutL_le 1 (fun _ => (1 : Int)); omega
    subst this
    decide
theorem pad_one (n : Nat) : padL [1] n = oneL n := by
  refine list_ext (by rw [padL_len, oneL_len]) fun j hj => ?_
  rw [padL_len] at hj
  unfold padL oneL
  rw [lf_tab, if_pos hj, lf_tab, if_pos hj]
  cases j with
  | zero => rfl
  | succ j => rw [if_neg (by omega)]; rfl
theorem poly1_c (b : Nat) (w : World) (hb : Own w b 1 (lf [1])) : Calls Tryd.prog 94 #[.slice (some ⟨b, 0, none⟩) 1 1] w (OwnG w [1]) := by
  have := poly_c (some ⟨b, 0, none⟩) 1 1 (fun _ => 1) w (by omega) (.inr ⟨b, 0, rfl, hb.lt, fun j hj => by
    obtain rfl : j = 0 := by omega
    exact World.rowIs.cell hb hj⟩)
  rwa [poly_one] at this
theorem own_one (w : World) : Own (w.alloc (.cells #[.int .i64 1] 3)) w.heap.size 1 (lf [1]) := by
  refine ⟨#[.int .i64 1], by unfold World.alloc; simp, rfl, fun j hj => ?_⟩
  obtain rfl : j = 0 := by omega
  rfl
set_option maxRecDepth 100000 in
theorem iRingOne (f n : Int) (w : World) (ht : Tab w) : Calls Tryd.prog 44 #[.int .i64 f, .int .i64 n] w (OwnL w (mRingOne f n)) := by
  have h9 := log_cases n
  have hl9 : mLog n ≤ 9 := by
    rcases h9 with ⟨k, hk, _, hl⟩ | ⟨_, hl⟩ <;> omega
  by_cases hk : hasK f (mLog n)
  · have hq := (hasK_iff _ _).1 hk
    have hm : mRingOne f n = oneL n.toNat := by unfold mRingOne; rw [if_pos hq]
    rw [hm]
    have hn : ∃ N : Nat, n = (N : Int) ∧ N ≤ 512 := by
      rcases h9 with ⟨k, hk9, rfl, hl⟩ | ⟨_, hl⟩
      · have : 2 ^ k ≤ 2 ^ 9 := Nat.pow_le_pow_right (by omega) hk9
        exact ⟨2 ^ k, by rw [Int.natCast_pow]; rfl, by omega⟩
      · omega
    obtain ⟨N, rfl, hN⟩ := hn
    rw [Int.toNat_natCast]
    have HH := Lib.hid (hasRoots_yes f (mLog N) w ht hk hl9)
    have HO := Lib.hid (own_one w)
    have hb1 := below_alloc w (.cells #[.int .i64 1] 3)
    have HP : Hid (∀ g W, Own W g [(1 : Int)].length (lf [1]) → Calls Tryd.prog 93 #[.slice (some ⟨g, 0, none⟩) 1 1, .int .i64 N] W (OwnG W (oneL N))) := Lib.hid fun g W ho => by
      have hl := (show 1 ≤ N by
        rcases h9 with ⟨k, hk9, e, hl⟩ | ⟨_, hl⟩
        · have h0 : 0 < 2 ^ k := Nat.pow_pos (by omega)
          have e2 : ((2 ^ k : Nat) : Int) = 2 ^ k := by rw [Int.natCast_pow]; rfl
          omega
        · omega)
      have := padded_c (some ⟨g, 0, none⟩) [1] 1 N W hl (by omega) ho.src
      rwa [pad_one] at this
    clear h9 hk hq hm
    have HLL := Lib.hid (iLogOf N w)
    generalize mLog (N : Int) = L at *
    go_enter Tryd.func44, Tryd.ntmps44
    go_wp2_with fail
    refine HLL.out.mono ?_
    rintro e w' ⟨rfl, rfl⟩
    go_wp2_with fail
    refine HH.out.mono ?_
    rintro e w' ⟨rfl, rfl⟩
    go_wp2_with fail
    refine (poly1_c w.heap.size _ HO.out).mono ?_
    rintro e w2 ⟨g2, rfl, hg2, o2, b2⟩
    have c2 := below_up hb1 b2 hb1.size
    have HPP := Lib.hid (HP.out g2 w2 o2)
    clear o2 b2 hb1 HO HP HH
    go_wp2_with fail
    refine HPP.out.mono ?_
    rintro e w3 h3
    have h4 := (h3.up c2).own
    obtain ⟨g3, rfl, _⟩ := h3
    have HF := Lib.hid h4
    clear h4 HPP
    go_wp2
    go_ret
    exact HF.out
  · have hm : mRingOne f n = [] := by unfold mRingOne; rw [if_neg fun x => hk ((hasK_iff _ _).2 x)]
    rw [hm]
    have HH := Lib.hid (hasRoots_no f (mLog n) w ht fun x => hk x.1)
    clear h9 hk hm
    go_enter Tryd.func44, Tryd.ntmps44
    go_wp2_with fail
    refine (iLogOf n w).mono ?_
    rintro e w' ⟨rfl, rfl⟩
    go_wp2_with fail
    refine HH.out.mono ?_
    rintro e w' ⟨rfl, rfl⟩
    go_wp2
    go_ret
    exact nil_own w
end Go.Proofs.YtoonpnfhcmghmaaDoor
