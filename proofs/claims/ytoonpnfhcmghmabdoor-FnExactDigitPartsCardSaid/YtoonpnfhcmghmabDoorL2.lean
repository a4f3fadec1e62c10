/-
  Texts of the proofs of this seat, joined (part 2).
-/
import Derived.Test.YtoonpnfhcmghmabDoorL1
namespace Go.Proofs.YtoonpnfhcmghmabDoor
open Go.RowKit
set_option maxRecDepth 100000 in
set_option maxHeartbeats 3200000 in
theorem iDigitParts_on (f b : Int) (a : Option Addr) (l : List Int) (cap C : Nat) (w : World) (hn : l.length ≤ 1048576) (hs : Src w a l.length (lf l)) (ht : Tab w) (h : okPart f l b C) : Calls Tryd.prog 26 #[.int .i64 f, .slice a l.length cap, .int .i64 b, .int .i64 C] w (OwnSSB w ((List.range C).map (digF8 l b)) true) := by
  obtain ⟨hv, ⟨hb0, hb5⟩, hc, hP⟩ := h
  rw [Int.toNat_natCast] at hP
  have HV : Hid (Calls Tryd.prog 51 #[.int .i64 f, .slice a l.length cap] w (SameB w true)) := Lib.hid (by have := iVectorOk f a l cap w hn hs ht; rwa [vok_iff.2 hv] at this)
  have HIB : Hid (Calls Tryd.prog 56 #[.int .i64 b] w fun e w' => e = .returned (.bool true) ∧ w = w') := Lib.hid (by have := isBase_c b w; rwa [decide_eq_true ⟨hb0, hb5⟩] at this)
  have HIC : Hid (Calls Tryd.prog 57 #[.int .i64 C] w fun e w' => e = .returned (.bool true) ∧ w = w') := Lib.hid (by have := isPartCount_c C w; rwa [decide_eq_true hc] at this)
  have HMD := Lib.hid (iModulus f w ht)
  have hn0 := hv.pos.1
  have hn5 := hv.pos.2
  have h08 := hv.f08
  have hp := P_bd h08.1 h08.2
  have HHD : Hid (Calls Tryd.prog 58 #[.int .i64 (P f - 1), .int .i64 b, .int .i64 C] w fun e w' => e = .returned (.bool true) ∧ w = w') := Lib.hid (by have := hasDigits_c (P f - 1) b C w (by omega) ⟨hb0, hb5⟩ (by omega); rwa [decide_eq_true (by omega)] at this)
  have HA := Lib.hid hv.lt
  have HRP : Hid (∀ d, 1 ≤ b ^ d) := Lib.hid fun d => by have := pow_pos8 hb0 d; omega
  have HDS : Hid (∀ j d, lf l j / b ^ d / b = lf l j / b ^ (d + 1)) := Lib.hid fun j d => dig_step hb0 (lf l j) d
  have HD0 : Hid (∀ j, lf l j / b ^ 0 = lf l j) := Lib.hid fun j => by rw [Int.pow_zero, Int.ediv_one]
  obtain ⟨bl, off, rfl, hlt, hcl⟩ := vec_some hs hn0
  have HCL : Hid (∀ W, Below w.heap.size w W → Calls Tryd.prog 60 #[.slice (some ⟨bl, off, none⟩) l.length cap] W fun e w' => ∃ g c, e = .returned (.slice (some ⟨g, 0, none⟩) l.length c) ∧ W.heap.size ≤ g ∧ OwnV w' g l.length c (lf l) ∧ Below W.heap.size W w') := Lib.hid fun W hb => clone_c bl off l.length cap (lf l) W hn0 hn (Nat.lt_of_lt_of_le hlt hb.size) (fun j hj => (hb.cell (p := ⟨bl, off + j, none⟩) hlt).trans (hcl j hj))
  have HF : Hid (∀ W gS gr, Laid8 W w.heap.size gS gr l.length C C (fun d j => lf l j / b ^ d % b) → w.heap.size ≤ gS → Below w.heap.size w W → OwnSSB w ((List.range C).map (digF8 l b)) true (.returned (.tuple #[.slice (some ⟨gS, 0, none⟩) C C, .bool true])) W) := Lib.hid fun W gS gr hp hg hb => by
    obtain ⟨gs, h1, h2, h3⟩ := hp
    refine ⟨_, C, by rw [parts_len], .inr ⟨gS, rfl, (parts_len _ _ _).symm, hg, gs, ?_, fun t ht => ?_, fun t t' ht ht' => h3 t t' (by rwa [parts_len] at ht) (by rwa [parts_len] at ht')⟩, hb⟩
    · rw [parts_len]
      exact World.rowIs.congr h1 fun t ht => by rw [if_pos ht, part_get ht, digF8_len]
    · rw [parts_len] at ht
      obtain ⟨a1, a2, a3, a4⟩ := h2 t ht
      rw [part_get ht, digF8_len]
      exact ⟨a1, a2, own_congr a4 rfl fun j hj => (lf_digF8 hj).symm⟩
  have hmk := run_make_row' (P := Tryd.prog) 22 3 (.int .i64 0) 8 Tryd.underlying22 info3 rfl .i64 .i64 l.length (by omega) (by omega)
  have hmk2 := run_make_row' (P := Tryd.prog) 31 22 (.slice none 0 0) 24 Tryd.underlying31 info22 rfl .i64 .i64 C (by omega) (by omega)
  generalize hR : (fun d : Nat => b ^ d) = R at *
  have HR : Hid (∀ d, b ^ d = R d) := Lib.hid fun d => by rw [← hR]
  simp only [HR.out] at HRP HDS HD0 HF hP
  clear hs hv hR HR hcl
  generalize ((List.range C).map (digF8 l b)) = OL at *
  generalize lf l = A at *
  generalize l.length = n at *
  have kz : (b == 0) = false := by rw [beq_eq_false_iff_ne]; omega
  have kz2 : ¬ b = 0 := by omega
  go_enter Tryd.func26, Tryd.ntmps26
  go_wp2_with fail
  refine HV.out.mono ?_
  rintro e w' ⟨rfl, rfl⟩
  go_wp2_with fail
  refine HIB.out.mono ?_
  rintro e w' ⟨rfl, rfl⟩
  go_wp2_with fail
  refine HIC.out.mono ?_
  rintro e w' ⟨rfl, rfl⟩
  go_wp2_with fail
  refine HMD.out.mono ?_
  rintro e w' ⟨rfl, rfl⟩
  go_wp2_with fail
  refine HHD.out.mono ?_
  rintro e w' ⟨rfl, rfl⟩
  clear HV HIB HIC HMD HHD
  go_wp2_with fail
  refine (HCL.out _ ((Below.refl _ _).alloc (Nat.le_refl _) _)).mono ?_
  rintro e w1 ⟨gr, cr, rfl, hgr, hov, hb1⟩
  obtain ⟨gS, hgS⟩ : ∃ gS, gS = w.heap.size := ⟨_, rfl⟩
  have hgr1 : gS < gr := by simp at hgr; omega
  have hgS0 : w.heap.size ≤ gS := by omega
  have HOL0 : Hid (OwnV w1 gr n cr (fun j => A j / R 0)) := Lib.hid (hov.congr fun j _ => (HD0.out j).symm)
  have HLA : Hid (Laid8 w1 w.heap.size gS gr n C 0 (fun d j => A j / R d % b)) := Lib.hid ⟨fun _ => 0, by
    have h1 := World.rowIs_made w (.slice none 0 0) C 22
    rw [hgS]
    exact World.rowIs.congr (World.rowIs.of_block h1 (hb1.block _ h1.lt)) fun t _ => by simp, fun t ht => absurd ht (by omega), fun t _ ht => absurd ht (by omega)⟩
  have hbw : Below w.heap.size w w1 := below_up ((Below.refl _ _).alloc (Nat.le_refl _) (.cells (madeCells #[.slice none 0 0] C) 22)) hb1 (by simp)
  rw [← hgS]
  clear hov HCL hb1 hgr hmk2 HD0 hgS
  go_wp2_with fail
  go_loopw [12, 13, 14, 42] (fun _ _ _ i wr => ∃ d : Nat, i = .int .i64 d ∧ d ≤ C ∧ Hid (Laid8 wr w.heap.size gS gr n C d (fun d j => A j / R d % b)) ∧ Hid (OwnV wr gr n cr (fun j => A j / R d)) ∧ Below w.heap.size w wr) (fun _ _ _ i _ => C - (intOf i).toNat)
  case atStart => exact ⟨0, rfl, Nat.zero_le _, HLA, HOL0, hbw⟩
  case round =>
    clear HLA HOL0 hbw
    obtain ⟨d, rfl, hd, HLA, HOL, hb⟩ := hrel
    by_cases h1 : d < C
    · have hd1 : decide ((d : Int) < C) = true := decide_eq_true (by omega)
      obtain ⟨gs, hsp, hrows, hdis⟩ := HLA.out
      have hgl := HOL.out.lt
      have hsl := hsp.lt
      have hsz := hb.size
      have HSP := Lib.hid hsp
      have HROWS := Lib.hid hrows
      have HDIS := Lib.hid hdis
      have hspa : (wr.alloc (.cells (madeCells #[.int .i64 0] n) 3)).rowIs gS 22 C (fun t => if t < d then .slice (some ⟨gs t, 0, none⟩) n n else .slice none 0 0) := World.rowIs.of_block hsp (heap_alloc_old wr _ hsl)
      have c1 := World.rowIs.cell hspa h1
      have c2 := World.rowIs.frozen hspa d
      rw [if_neg (Nat.lt_irrefl d)] at c1
      have i1 : (0 : Int) ≤ (d : Int) := by omega
      have i2 : (d : Int) < (C : Int) := by omega
      clear hsp hrows hdis HLA
      go_wp2_with fail
      obtain ⟨gp, hgp⟩ : ∃ gp, wr.heap.size = gp := ⟨_, rfl⟩
      have hzz : (wr.setCell ⟨gS, d, none⟩ (.slice (some ⟨gp, 0, none⟩) n n)).heap.size = gp := by rw [← hgp]; simp [World.setCell]
      have b1 := hb.setCell (p := ⟨gS, d, none⟩) hgS0 (.slice (some ⟨gp, 0, none⟩) n n)
      have b2 : Below w.heap.size w ((wr.setCell ⟨gS, d, none⟩ (.slice (some ⟨gp, 0, none⟩) n n)).alloc (.cells (madeCells #[.int .i64 0] n) 3)) := b1.alloc b1.size _
      have s1 := World.rowIs.set HSP.out d (.slice (some ⟨gp, 0, none⟩) n n)
      have s2 : ((wr.setCell ⟨gS, d, none⟩ (.slice (some ⟨gp, 0, none⟩) n n)).alloc (.cells (madeCells #[.int .i64 0] n) 3)).rowIs gS 22 C (fun t => if t = d then .slice (some ⟨gp, 0, none⟩) n n else if t < d then .slice (some ⟨gs t, 0, none⟩) n n else .slice none 0 0) := World.rowIs.of_block s1 (heap_alloc_old _ _ s1.lt)
      have r2 : ∀ t, t < d → Own ((wr.setCell ⟨gS, d, none⟩ (.slice (some ⟨gp, 0, none⟩) n n)).alloc (.cells (madeCells #[.int .i64 0] n) 3)) (gs t) n (fun j => A j / R t % b) := fun t ht => by
        obtain ⟨a1, a2, a3, a4⟩ := HROWS.out t ht
        have a5 : Own (wr.setCell ⟨gS, d, none⟩ (.slice (some ⟨gp, 0, none⟩) n n)) (gs t) n (fun j => A j / R t % b) := own_other a4 a2
        exact World.rowIs.of_block a5 (heap_alloc_old _ _ a5.lt)
      have l2 : ∀ t, t < d → gs t < gp := fun t ht => by rw [← hgp]; exact (HROWS.out t ht).2.2.2.lt
      have z2 : Own ((wr.setCell ⟨gS, d, none⟩ (.slice (some ⟨gp, 0, none⟩) n n)).alloc (.cells (madeCells #[.int .i64 0] n) 3)) gp n (fun t => if t < 0 then A t / R d % b else 0) := by
        have h9 := World.rowIs_made (wr.setCell ⟨gS, d, none⟩ (.slice (some ⟨gp, 0, none⟩) n n)) (.int .i64 0) n 3
        rw [hzz] at h9
        exact World.rowIs.congr h9 fun t _ => by simp
      have o2 : OwnV ((wr.setCell ⟨gS, d, none⟩ (.slice (some ⟨gp, 0, none⟩) n n)).alloc (.cells (madeCells #[.int .i64 0] n) 3)) gr n cr (fun t => if t < 0 then A t / R (d + 1) else A t / R d) := ((HOL.out.other (by omega)).grownR (World.grownBy_alloc _ _ none) (by simp)).congr fun t _ => by simp
      have hpS : gp ≠ gS := by omega
      have hpr : gp ≠ gr := by omega
      have hwp : w.heap.size ≤ gp := by omega
      rw [hgp]
      clear hspa c1 c2 hb hgp HOL HSP b1 s1 hzz
      generalize (wr.setCell ⟨gS, d, none⟩ (.slice (some ⟨gp, 0, none⟩) n n)).alloc (.cells (madeCells #[.int .i64 0] n) 3) = W1 at *
      have hS1 := s2.lt
      have S2 := Lib.hid s2
      have R2 := Lib.hid r2
      have Z2 := Lib.hid z2
      have O2 := Lib.hid o2
      have T2 := Lib.hid (Two8.refl W1 gp gr)
      clear s2 r2 z2 o2
      go_loopw [13, 14, 53] (fun _ _ i W => ∃ j : Nat, i = .int .i64 j ∧ j ≤ n ∧ Hid (Own W gp n (fun t => if t < j then A t / R d % b else 0)) ∧ Hid (OwnV W gr n cr (fun t => if t < j then A t / R (d + 1) else A t / R d)) ∧ Hid (Two8 W1 W gp gr)) (fun _ _ i _ => n - (intOf i).toNat)
      case atStart => exact ⟨0, rfl, Nat.zero_le _, Z2, O2, T2⟩
      case round =>
        clear Z2 O2 T2
        obtain ⟨j, rfl, hj, Z2, O2, T2⟩ := hrel
        by_cases h2 : j < n
        · have hd2 : decide ((j : Int) < n) = true := decide_eq_true (by omega)
          have cL := O2.out.cell h2
          simp only [Nat.lt_irrefl, if_false] at cL
          have cS : wr.cell? ⟨gS, d, none⟩ = some (.slice (some ⟨gp, 0, none⟩) n n) := by
            have := World.rowIs.cell (World.rowIs.of_block S2.out (T2.out.2.2 gS hS1 (Ne.symm hpS) (by omega))) h1
            simpa using this
          have cP := World.rowIs.cell Z2.out h2
          have fP := World.rowIs.frozen Z2.out j
          have fL := O2.out.frozen j
          have hA := HA.out j
          have hX0 : 0 ≤ A j / R d := Int.ediv_nonneg hA.1 (by have := HRP.out d; omega)
          have hX1 : A j / R d ≤ A j := Int.ediv_le_self _ hA.1
          have t1 : (A j / R d).tdiv b = A j / R (d + 1) := by rw [Int.tdiv_eq_ediv_of_nonneg hX0, HDS.out j d]
          have t2 : (A j / R d).tmod b = A j / R d % b := Int.tmod_eq_emod_of_nonneg hX0
          have hY0 : 0 ≤ A j / R (d + 1) := Int.ediv_nonneg hA.1 (by have := HRP.out (d + 1); omega)
          have hY1 : A j / R (d + 1) ≤ A j := Int.ediv_le_self _ hA.1
          have zd : Own wr.drew gp n (fun t => if t < j then A t / R d % b else 0) := Z2.out
          have od : OwnV wr.drew gr n cr (fun t => if t < j then A t / R (d + 1) else A t / R d) := O2.out
          have td : Two8 W1 wr.drew gp gr := T2.out
          have eP : ∀ t, t < n → (if t = j then (.int .i64 (A j / R d % b)) else (Value.int .i64 (if t < j then A t / R d % b else 0))) = Value.int .i64 (if t < j + 1 then A t / R d % b else 0) := fun t _ => by
            by_cases e1 : t = j
            · rw [if_pos e1, if_pos (by omega), e1]
            · rw [if_neg e1]
              by_cases e2 : t < j
              · rw [if_pos e2, if_pos (by omega)]
              · rw [if_neg e2, if_neg (by omega)]
          have eL : ∀ t, t < n → upd (fun t => if t < j then A t / R (d + 1) else A t / R d) j (A j / R (d + 1)) t = (if t < j + 1 then A t / R (d + 1) else A t / R d) := fun t _ => by
            show (if t = j then A j / R (d + 1) else (if t < j then A t / R (d + 1) else A t / R d)) = _
            by_cases e1 : t = j
            · rw [if_pos e1, if_pos (by omega), e1]
            · rw [if_neg e1]
              by_cases e2 : t < j
              · rw [if_pos e2, if_pos (by omega)]
              · rw [if_neg e2, if_neg (by omega)]
          have HS1 : Hid (Own ((wr.drew.setCell ⟨gp, j, none⟩ (.int .i64 (A j / R d % b))).setCell ⟨gr, j, none⟩ (.int .i64 (A j / R (d + 1)))) gp n (fun t => if t < j + 1 then A t / R d % b else 0) ∧ OwnV ((wr.drew.setCell ⟨gp, j, none⟩ (.int .i64 (A j / R d % b))).setCell ⟨gr, j, none⟩ (.int .i64 (A j / R (d + 1)))) gr n cr (fun t => if t < j + 1 then A t / R (d + 1) else A t / R d) ∧ Two8 W1 ((wr.drew.setCell ⟨gp, j, none⟩ (.int .i64 (A j / R d % b))).setCell ⟨gr, j, none⟩ (.int .i64 (A j / R (d + 1)))) gp gr) :=
            Lib.hid ⟨own_other (World.rowIs.congr (World.rowIs.set zd j (.int .i64 (A j / R d % b))) eP) hpr, (OwnV.set (s := j) (x := A j / R (d + 1)) (od.other (Ne.symm hpr))).congr eL, (td.set (.inl rfl)).set (.inr rfl)⟩
          have HS2 : Hid (Own ((wr.drew.setCell ⟨gr, j, none⟩ (.int .i64 (A j / R (d + 1)))).setCell ⟨gp, j, none⟩ (.int .i64 (A j / R d % b))) gp n (fun t => if t < j + 1 then A t / R d % b else 0) ∧ OwnV ((wr.drew.setCell ⟨gr, j, none⟩ (.int .i64 (A j / R (d + 1)))).setCell ⟨gp, j, none⟩ (.int .i64 (A j / R d % b))) gr n cr (fun t => if t < j + 1 then A t / R (d + 1) else A t / R d) ∧ Two8 W1 ((wr.drew.setCell ⟨gr, j, none⟩ (.int .i64 (A j / R (d + 1)))).setCell ⟨gp, j, none⟩ (.int .i64 (A j / R d % b))) gp gr) :=
            Lib.hid ⟨World.rowIs.congr (World.rowIs.set (own_other zd hpr) j (.int .i64 (A j / R d % b))) eP, ((OwnV.set (s := j) (x := A j / R (d + 1)) od).other (Ne.symm hpr)).congr eL, (td.set (.inr rfl)).set (.inl rfl)⟩
          have i3 : (0 : Int) ≤ (j : Int) := by omega
          have i4 : (j : Int) < (n : Int) := by omega
          clear Z2 O2 T2 zd od td eP eL
          generalize A j / R d % b = Z at *
          generalize A j / R (d + 1) = Y at *
          generalize A j / R d = X at *
          go_wp2_with fail
          go_region
          all_goals go_wp2
          all_goals go_roundw
          case rel => first | exact ⟨j + 1, by go_num, by omega, Lib.hid HS1.out.1, Lib.hid HS1.out.2.1, Lib.hid HS1.out.2.2⟩ | exact ⟨j + 1, by go_num, by omega, Lib.hid HS2.out.1, Lib.hid HS2.out.2.1, Lib.hid HS2.out.2.2⟩
          case measure => simp [intOf]; omega
        · have hd2 : decide ((j : Int) < n) = false := decide_eq_false (by omega)
          obtain rfl : j = n := by omega
          have HLN : Hid (Laid8 wr w.heap.size gS gr j C (d + 1) (fun d t => A t / R d % b)) := Lib.hid (by
            refine ⟨fun t => if t = d then gp else gs t, World.rowIs.congr (World.rowIs.of_block S2.out (T2.out.2.2 gS hS1 (Ne.symm hpS) (by omega))) fun t ht => ?_, fun t ht => ?_, fun t t' ht ht' hne => ?_⟩
            · show _ = if t < d + 1 then Value.slice (some ⟨if t = d then gp else gs t, 0, none⟩) j j else Value.slice none 0 0
              by_cases e1 : t = d
              · rw [if_pos e1, if_pos (by omega), if_pos e1]
              · rw [if_neg e1, if_neg e1]
                by_cases e2 : t < d
                · rw [if_pos e2, if_pos (by omega)]
                · rw [if_neg e2, if_neg (by omega)]
            · by_cases e1 : t = d
              · subst e1
                simp only [if_true]
                exact ⟨hwp, hpS, hpr, own_congr Z2.out rfl fun i hi => if_pos hi⟩
              · simp only [if_neg e1]
                obtain ⟨a1, a2, a3, a4⟩ := HROWS.out t (by omega)
                have a5 := R2.out t (by omega)
                have a6 := l2 t (by omega)
                exact ⟨a1, a2, a3, World.rowIs.of_block a5 (T2.out.2.2 _ a5.lt (by omega) a3)⟩
            · have q1 := fun h => l2 t h
              have q2 := fun h => l2 t' h
              show (if t = d then gp else gs t) ≠ (if t' = d then gp else gs t')
              by_cases e1 : t = d
              · rw [if_pos e1, if_neg (by omega)]
                have := q2 (by omega)
                omega
              · rw [if_neg e1]
                by_cases e2 : t' = d
                · rw [if_pos e2]
                  have := q1 (by omega)
                  omega
                · rw [if_neg e2]
                  exact HDIS.out t t' (by omega) (by omega) hne)
          have HON : Hid (OwnV wr gr j cr (fun t => A t / R (d + 1))) := Lib.hid (O2.out.congr fun t ht => if_pos ht)
          have HBN := T2.out.below b2 hwp (by omega)
          clear S2 R2 Z2 O2 T2 HROWS HDIS b2 l2
          go_wp2
          go_roundw
          case rel => exact ⟨d + 1, by go_num, by omega, HLN, HON, HBN⟩
          case measure => simp [intOf]; omega
    · have hd1 : decide ((d : Int) < C) = false := decide_eq_false (by omega)
      obtain rfl : d = C := by omega
      have HL := Lib.hid (HF.out _ _ _ HLA.out hgS0 hb)
      clear HLA HOL HF
      go_wp2
      go_ret2
      exact HL.out
theorem iDigitParts_off (f b c : Int) (a : Option Addr) (l : List Int) (cap : Nat) (w : World) (hn : l.length ≤ 1048576) (hs : Src w a l.length (lf l)) (ht : Tab w) (h : ¬ okPart f l b c) : Calls Tryd.prog 26 #[.int .i64 f, .slice a l.length cap, .int .i64 b, .int .i64 c] w (OwnSSB w [] false) := by
  have R1 := iVectorOk f a l cap w hn hs ht
  have HIB := Lib.hid (isBase_c b w)
  have HIC := Lib.hid (isPartCount_c c w)
  by_cases hv : VecOk f l
  rotate_left
  · rw [vok_not.2 hv] at R1
    have HV := Lib.hid R1
    clear hs h hv R1 HIB HIC
    go_enter Tryd.func26, Tryd.ntmps26
    go_wp2_with fail
    refine HV.out.mono ?_
    rintro e w' ⟨rfl, rfl⟩
    go_wp2
    go_ret2
    exact nil_ownSSB w
  rw [vok_iff.2 hv] at R1
  have HV := Lib.hid R1
  by_cases hb : 2 ≤ b ∧ b ≤ 65536
  rotate_left
  · rw [decide_eq_false hb] at HIB
    clear hs h hv R1 HIC hb
    go_enter Tryd.func26, Tryd.ntmps26
    go_wp2_with fail
    refine HV.out.mono ?_
    rintro e w' ⟨rfl, rfl⟩
    go_wp2_with fail
    refine HIB.out.mono ?_
    rintro e w' ⟨rfl, rfl⟩
    go_wp2
    go_ret2
    exact nil_ownSSB w
  rw [decide_eq_true hb] at HIB
  by_cases hc : 1 ≤ c ∧ c ≤ 32
  rotate_left
  · rw [decide_eq_false hc] at HIC
    clear hs h hv R1 hb hc
    go_enter Tryd.func26, Tryd.ntmps26
    go_wp2_with fail
    refine HV.out.mono ?_
    rintro e w' ⟨rfl, rfl⟩
    go_wp2_with fail
    refine HIB.out.mono ?_
    rintro e w' ⟨rfl, rfl⟩
    go_wp2_with fail
    refine HIC.out.mono ?_
    rintro e w' ⟨rfl, rfl⟩
    go_wp2
    go_ret2
    exact nil_ownSSB w
  rw [decide_eq_true hc] at HIC
  obtain ⟨C, rfl⟩ : ∃ C : Nat, c = C := ⟨c.toNat, by omega⟩
  have hP : b ^ C < P f := Int.lt_of_not_ge fun hp => h ⟨hv, hb, hc, by rw [Int.toNat_natCast]; exact hp⟩
  have hp := P_bd hv.f08.1 hv.f08.2
  have HMD := Lib.hid (iModulus f w ht)
  have HHD : Hid (Calls Tryd.prog 58 #[.int .i64 (P f - 1), .int .i64 b, .int .i64 C] w fun e w' => e = .returned (.bool false) ∧ w = w') := Lib.hid (by have := hasDigits_c (P f - 1) b C w (by omega) hb (by omega); rwa [decide_eq_false (by omega)] at this)
  clear hs h hv R1 hb hP
  go_enter Tryd.func26, Tryd.ntmps26
  go_wp2_with fail
  refine HV.out.mono ?_
  rintro e w' ⟨rfl, rfl⟩
  go_wp2_with fail
  refine HIB.out.mono ?_
  rintro e w' ⟨rfl, rfl⟩
  go_wp2_with fail
  refine HIC.out.mono ?_
  rintro e w' ⟨rfl, rfl⟩
  go_wp2_with fail
  refine HMD.out.mono ?_
  rintro e w' ⟨rfl, rfl⟩
  go_wp2_with fail
  refine HHD.out.mono ?_
  rintro e w' ⟨rfl, rfl⟩
  go_wp2
  go_ret2
  exact nil_ownSSB w
theorem iDigitParts (f : Int) (a : Option Addr) (l : List Int) (cap : Nat) (b c : Int) (w : World) (hn : l.length ≤ 1048576) (hs : Src w a l.length (lf l)) (ht : Tab w) : Calls Tryd.prog 26 #[.int .i64 f, .slice a l.length cap, .int .i64 b, .int .i64 c] w (OwnSSB w (mDigitParts0 f l b c) (mDigitParts1 f l b c)) := by
  by_cases h : okPart f l b c
  · rw [show mDigitParts0 f l b c = (List.range c.toNat).map (digF8 l b) by unfold mDigitParts0; rw [if_pos h], show mDigitParts1 f l b c = true by simp only [mDigitParts1, decide_eq_true_eq]; exact h]
    obtain ⟨C, rfl⟩ : ∃ C : Nat, c = C := ⟨c.toNat, by have := h.2.2.1; omega⟩
    rw [Int.toNat_natCast]
    exact iDigitParts_on f b a l cap C w hn hs ht h
  · rw [show mDigitParts0 f l b c = [] by unfold mDigitParts0; rw [if_neg h], show mDigitParts1 f l b c = false by simp only [mDigitParts1, decide_eq_false_iff_not]; exact h]
    exact iDigitParts_off f b c a l cap w hn hs ht h
end Go.Proofs.YtoonpnfhcmghmabDoor
namespace Go.Proofs.YtoonpnfhcmghmabDoor
open Go.RowKit
/-- C rows of n elements, read. -/
def SrcU (W : World) (a : Option Addr) (n C : Nat) (DG : Nat → Nat → Int) : Prop := C = 0 ∨ ∃ b off, a = some ⟨b, off, none⟩ ∧ b < W.heap.size ∧ ∀ d, d < C → ∃ a' c', W.cell? ⟨b, off + d, none⟩ = some (.slice a' n c') ∧ Src W a' n (DG d)
theorem SrcU.keep {W W' : World} {a : Option Addr} {n C : Nat} {DG : Nat → Nat → Int} (h : SrcU W a n C DG) (hb : Below W.heap.size W W') : SrcU W' a n C DG := by
  rcases h with h | ⟨b, off, rfl, hlt, hc⟩
  · exact .inl h
  · refine .inr ⟨b, off, rfl, Nat.lt_of_lt_of_le hlt hb.size, fun d hd => ?_⟩
    obtain ⟨a', c', h1, h2⟩ := hc d hd
    exact ⟨a', c', (hb.cell (p := ⟨b, off + d, none⟩) hlt).trans h1, h2.keep hb⟩
/-- C rows of n elements, in memory of their own. -/
def RowsU (W : World) (B g n C : Nat) (gs : Nat → Nat) (DG : Nat → Nat → Int) : Prop := W.rowIs g 22 C (fun t => .slice (some ⟨gs t, 0, none⟩) n n) ∧ (∀ t, t < C → B ≤ gs t ∧ gs t ≠ g ∧ Own W (gs t) n (DG t)) ∧ ∀ t t', t < C → t' < C → t ≠ t' → gs t ≠ gs t'
def OwnU (W : World) (B : Nat) (a : Option Addr) (n C cap : Nat) (DG : Nat → Nat → Int) : Prop := (a = none ∧ cap = 0 ∧ C = 0) ∨ ∃ g gs, a = some ⟨g, 0, none⟩ ∧ cap = C ∧ B ≤ g ∧ RowsU W B g n C gs DG
theorem RowsU.keep {W W' : World} {B g n C : Nat} {gs : Nat → Nat} {DG : Nat → Nat → Int} (h : RowsU W B g n C gs DG) (hb : Below W.heap.size W W') : RowsU W' B g n C gs DG :=
  ⟨World.rowIs.of_block h.1 (hb.block g h.1.lt), fun t ht => ⟨(h.2.1 t ht).1, (h.2.1 t ht).2.1, (h.2.1 t ht).2.2.keep hb⟩, h.2.2⟩
theorem OwnU.keep {W W' : World} {B : Nat} {a : Option Addr} {n C cap : Nat} {DG : Nat → Nat → Int} (h : OwnU W B a n C cap DG) (hb : Below W.heap.size W W') : OwnU W' B a n C cap DG := by
  rcases h with h | ⟨g, gs, h1, h2, h3, h4⟩
  · exact .inl h
  · exact .inr ⟨g, gs, h1, h2, h3, h4.keep hb⟩
theorem OwnU.src {W : World} {B : Nat} {a : Option Addr} {n C cap : Nat} {DG : Nat → Nat → Int} (h : OwnU W B a n C cap DG) : SrcU W a n C DG := by
  rcases h with h | ⟨g, gs, rfl, h2, h3, h4⟩
  · exact .inl h.2.2
  · refine .inr ⟨g, 0, rfl, h4.1.lt, fun d hd => ⟨some ⟨gs d, 0, none⟩, n, ?_, (h4.2.1 d hd).2.2.src⟩⟩
    rw [Nat.zero_add]
    exact World.rowIs.cell h4.1 hd
theorem eqSS_none (a a2 : Option Addr) (cap cap2 : Nat) (w : World) : Calls Tryd.prog 27 #[.slice a 0 cap, .slice a2 0 cap2] w (TrueP w) := by
  go_enter Tryd.func27, Tryd.ntmps27
  go_wp2
  refine wp_loop_rounds 1 ?_
  rw [rounds_succ]
  go_wp2
  go_ret
  exact ⟨rfl, Below.refl _ _⟩
set_option maxHeartbeats 1600000 in
theorem eqSS_some (b off b2 off2 n C cap cap2 : Nat) (DG : Nat → Nat → Int) (w : World) (hn : n ≤ 1048576) (hC : C ≤ 32) (hlt : b < w.heap.size) (hlt2 : b2 < w.heap.size)
    (hc : ∀ d, d < C → ∃ a' c', w.cell? ⟨b, off + d, none⟩ = some (.slice a' n c') ∧ Src w a' n (DG d)) (hc2 : ∀ d, d < C → ∃ a' c', w.cell? ⟨b2, off2 + d, none⟩ = some (.slice a' n c') ∧ Src w a' n (DG d)) :
    Calls Tryd.prog 27 #[.slice (some ⟨b, off, none⟩) C cap, .slice (some ⟨b2, off2, none⟩) C cap2] w (TrueP w) := by
  have HC := Lib.hid hc
  have HC2 := Lib.hid hc2
  clear hc hc2
  go_enter Tryd.func27, Tryd.ntmps27
  go_wp2_with fail
  go_loopw [5] (fun i wr => ∃ d : Nat, i = .int .i64 d ∧ d ≤ C ∧ Below w.heap.size w wr) (fun i _ => C - (intOf i).toNat)
  case atStart => exact ⟨0, rfl, Nat.zero_le _, Below.refl _ _⟩
  case round =>
    obtain ⟨d, rfl, hd, hb⟩ := hrel
    by_cases h1 : d < C
    · have hd1 : decide ((d : Int) < C) = true := decide_eq_true (by omega)
      obtain ⟨a1, k1, e1, s1⟩ := HC.out d h1
      obtain ⟨a2, k2, e2, s2⟩ := HC2.out d h1
      have HS1 := Lib.hid s1
      have HS2 := Lib.hid s2
      have c1 : wr.cell? ⟨b, off + d, none⟩ = some (.slice a1 n k1) := (hb.cell (p := ⟨b, off + d, none⟩) hlt).trans e1
      have c2 : wr.cell? ⟨b2, off2 + d, none⟩ = some (.slice a2 n k2) := (hb.cell (p := ⟨b2, off2 + d, none⟩) hlt2).trans e2
      have KS : Hid (∀ W, Below w.heap.size w W → W.cell? ⟨b, off + d, none⟩ = some (.slice a1 n k1) ∧ W.cell? ⟨b2, off2 + d, none⟩ = some (.slice a2 n k2) ∧ Below w.heap.size w W) := Lib.hid fun W hW => ⟨(hW.cell (p := ⟨b, off + d, none⟩) hlt).trans e1, (hW.cell (p := ⟨b2, off2 + d, none⟩) hlt2).trans e2, hW⟩
      have HEQ : Hid (∀ W, Below w.heap.size w W → Calls Tryd.prog 14 #[.slice a1 n k1, .slice a2 n k2] W (TrueP W)) := Lib.hid fun W hW => eq_c a1 a2 n k1 k2 (DG d) W hn (HS1.out.keep hW) (HS2.out.keep hW)
      have i1 : (0 : Int) ≤ (d : Int) := by omega
      have i2 : (d : Int) < (C : Int) := by omega
      clear s1 s2 e1 e2
      go_wp2_with fail
      go_region_held3 (fun W => W.cell? ⟨b, off + d, none⟩ = some (.slice a1 n k1) ∧ W.cell? ⟨b2, off2 + d, none⟩ = some (.slice a2 n k2) ∧ Below w.heap.size w W)
        (first
          | exact KS.out _ hb.drew
          | exact KS.out _ hb
          | exact KS.out _ hB4
          | go_keep)
        (first
          | (go_at_call 14; obtain ⟨_, _, hX⟩ : _ ∧ _ ∧ Below w.heap.size w _ := (by assumption); refine (HEQ.out _ hX).mono ?_; rintro e w4 ⟨rfl, hB3⟩; have hB4 := below_up hX hB3 hX.size; clear hX hB3))
      all_goals
        go_wp2
        go_roundw
        case rel => exact ⟨d + 1, by go_num, by omega, by first | exact hB4 | exact hB4.drew⟩
        case measure => simp [intOf]; omega
    · have hd1 : decide ((d : Int) < C) = false := decide_eq_false (by omega)
      clear HC HC2
      go_wp2
      go_ret
      exact ⟨rfl, hb⟩
theorem eqSS (a a2 : Option Addr) (n C cap cap2 : Nat) (DG : Nat → Nat → Int) (w : World) (hn : n ≤ 1048576) (hC : C ≤ 32) (hs : SrcU w a n C DG) (hs2 : SrcU w a2 n C DG) : Calls Tryd.prog 27 #[.slice a C cap, .slice a2 C cap2] w (TrueP w) := by
  rcases hs with rfl | ⟨b, off, rfl, hlt, hc⟩
  · exact eqSS_none a a2 cap cap2 w
  · rcases hs2 with rfl | ⟨b2, off2, rfl, hlt2, hc2⟩
    · exact eqSS_none _ a2 cap cap2 w
    · exact eqSS_some b off b2 off2 n C cap cap2 DG w hn hC hlt hlt2 hc hc2
theorem RowsU.mark {W W' : World} {B g n C j : Nat} {gs : Nat → Nat} {DG : Nat → Nat → Int} {F : Nat → Int} (h : RowsU W B g n C gs DG) (hj : j < C) (hg : W.grownBy W' (some (gs j))) (ho : Own W' (gs j) n F) : RowsU W' B g n C gs (fun t => if t = j then F else DG t) := by
  obtain ⟨h1, h2, h3⟩ := h
  refine ⟨World.rowIs.of_block h1 (hg.block g h1.lt (fun e => by injection e with e; exact (h2 j hj).2.1 e.symm)), fun t ht => ?_, h3⟩
  obtain ⟨a1, a2, a3⟩ := h2 t ht
  by_cases e : t = j
  · subst e
    simp only [if_true]
    exact ⟨a1, a2, ho⟩
  · simp only [if_neg e]
    exact ⟨a1, a2, World.rowIs.of_block a3 (hg.block _ a3.lt (fun e2 => by injection e2 with e2; exact h3 t j ht hj e e2))⟩
def MarkU (w : World) (B : Nat) (a : Option Addr) (n C cap : Nat) (k : Int) (e : Ending) (w' : World) : Prop := e = .returned (.int .i64 (k + ((C * n : Nat) : Int))) ∧ OwnU w' B a n C cap (fun t j => k + ((t * n : Nat) : Int) + j) ∧ Below B w w'
set_option maxHeartbeats 1600000 in
theorem markSS_some (B g n C : Nat) (gs : Nat → Nat) (DG : Nat → Nat → Int) (k : Int) (w : World) (hn : n ≤ 4096) (hC : C ≤ 32) (k0 : 0 ≤ k) (k1 : k ≤ 500000000) (hB : B ≤ w.heap.size) (h : RowsU w B g n C gs DG) (hg : B ≤ g) :
    Calls Tryd.prog 28 #[.slice (some ⟨g, 0, none⟩) C C, .int .i64 k] w (MarkU w B (some ⟨g, 0, none⟩) n C C k) := by
  have H := Lib.hid h
  clear h
  go_enter Tryd.func28, Tryd.ntmps28
  go_wp2_with fail
  go_loopw [1, 5] (fun u i wr => ∃ d KM : Nat, i = .int .i64 d ∧ u = .int .i64 (k + KM) ∧ KM = d * n ∧ d ≤ C ∧ Hid (RowsU wr B g n C gs (fun t => if t < d then fun j => k + ((t * n : Nat) : Int) + j else DG t)) ∧ Below B w wr) (fun _ i _ => C - (intOf i).toNat)
  case atStart => exact ⟨0, 0, rfl, by simp, by simp, Nat.zero_le _, Lib.hid (by simpa using H.out), Below.refl _ _⟩
  case round =>
    clear H
    obtain ⟨d, KM, rfl, rfl, hKM, hd, H, hb⟩ := hrel
    have hKb : KM ≤ 32 * 4096 := by rw [hKM]; exact Nat.mul_le_mul (by omega) hn
    by_cases h1 : d < C
    · have hd1 : decide ((d : Int) < C) = true := decide_eq_true (by omega)
      obtain ⟨q1, q2, q3⟩ := H.out
      have c1 := World.rowIs.cell q1 h1
      obtain ⟨z1, z2, z3⟩ := q2 d h1
      have HMK := Lib.hid (mark_c (gs d) n n _ (k + KM) wr (by omega) (by omega) (by omega) z3)
      have HN : Hid ((d + 1) * n = KM + n) := Lib.hid (by rw [Nat.add_mul, Nat.one_mul, ← hKM])
      have HK2 := Lib.hid hKM
      clear q1 q2 q3 z3 hKM
      go_wp2_with fail
      refine HMK.out.mono ?_
      rintro e w2 ⟨rfl, hO, hG⟩
      have HR : Hid (RowsU w2 B g n C gs (fun t => if t < d + 1 then fun j => k + ((t * n : Nat) : Int) + j else DG t)) := Lib.hid (by
        have h9 := H.out.mark h1 hG hO
        have e9 : (fun t => if t = d then (fun j : Nat => k + (KM : Int) + (j : Int)) else (fun t => if t < d then fun j : Nat => k + ((t * n : Nat) : Int) + (j : Int) else DG t) t) = (fun t => if t < d + 1 then fun j : Nat => k + ((t * n : Nat) : Int) + (j : Int) else DG t) := by
          funext t
          by_cases e1 : t = d
          · subst e1
            rw [if_pos rfl, if_pos (by omega), HK2.out]
          · rw [if_neg e1]
            show (if t < d then _ else _) = _
            by_cases e2 : t < d
            · rw [if_pos e2, if_pos (by omega)]
            · rw [if_neg e2, if_neg (by omega)]
        rw [← e9]
        exact h9)
      have hb2 : Below B w w2 := hb.grown hG (Nat.le_trans hB hb.size) (fun x hx => by injection hx with hx; omega)
      clear HMK H hO hG hb
      go_wp2
      go_roundw
      case rel => exact ⟨d + 1, KM + n, by go_num, vint (by omega), HN.out.symm, by omega, HR, hb2⟩
      case measure => simp [intOf]; omega
    · have hd1 : decide ((d : Int) < C) = false := decide_eq_false (by omega)
      obtain rfl : d = C := by omega
      have HR : Hid (OwnU wr B (some ⟨g, 0, none⟩) n d d (fun t j => k + ((t * n : Nat) : Int) + j)) := Lib.hid (.inr ⟨g, gs, rfl, rfl, hg, H.out.1, fun t ht => by
        obtain ⟨z1, z2, z3⟩ := H.out.2.1 t ht
        refine ⟨z1, z2, ?_⟩
        simpa [if_pos ht] using z3, H.out.2.2⟩)
      have HK2 := Lib.hid hKM
      clear H hKM
      go_wp2
      go_ret
      exact ⟨by rw [HK2.out]; rfl, HR.out, hb⟩
theorem markSS_none (k : Int) (w : World) : Calls Tryd.prog 28 #[.slice none 0 0, .int .i64 k] w fun e w' => e = .returned (.int .i64 k) ∧ w = w' := by
  go_enter Tryd.func28, Tryd.ntmps28
  go_wp2
  refine wp_loop_rounds 1 ?_
  rw [rounds_succ]
  go_wp2
  go_ret
  exact ⟨rfl, rfl⟩
theorem markSS (B : Nat) (a : Option Addr) (n C cap : Nat) (DG : Nat → Nat → Int) (k : Int) (w : World) (hn : n ≤ 4096) (hC : C ≤ 32) (k0 : 0 ≤ k) (k1 : k ≤ 500000000) (hB : B ≤ w.heap.size) (h : OwnU w B a n C cap DG) : Calls Tryd.prog 28 #[.slice a C cap, .int .i64 k] w (MarkU w B a n C cap k) := by
  rcases h with ⟨rfl, rfl, rfl⟩ | ⟨g, gs, rfl, rfl, hg, h⟩
  · refine (markSS_none k w).mono ?_
    rintro e w' ⟨rfl, rfl⟩
    exact ⟨by simp, .inl ⟨rfl, rfl, rfl⟩, Below.refl _ _⟩
  · exact markSS_some B g n _ gs DG k w hn hC k0 k1 hB h hg
set_option maxHeartbeats 1600000 in
theorem heldSS_some (B g n C : Nat) (gs : Nat → Nat) (k : Int) (w : World) (hn : n ≤ 4096) (hC : C ≤ 32) (k0 : 0 ≤ k) (k1 : k ≤ 500000000) (h : RowsU w B g n C gs (fun t j => k + ((t * n : Nat) : Int) + j)) :
    Calls Tryd.prog 29 #[.slice (some ⟨g, 0, none⟩) C C, .int .i64 k] w fun e w' => e = .returned (.int .i64 (k + ((C * n : Nat) : Int))) ∧ w = w' := by
  have H := Lib.hid h
  clear h
  go_enter Tryd.func29, Tryd.ntmps29
  go_wp2_with fail
  go_loopw [1, 5] (fun u i wr => ∃ d KM : Nat, i = .int .i64 d ∧ u = .int .i64 (k + KM) ∧ KM = d * n ∧ d ≤ C ∧ w = wr) (fun _ i _ => C - (intOf i).toNat)
  case atStart => exact ⟨0, 0, rfl, by simp, by simp, Nat.zero_le _, rfl⟩
  case round =>
    obtain ⟨d, KM, rfl, rfl, hKM, hd, rfl⟩ := hrel
    have hKb : KM ≤ 32 * 4096 := by rw [hKM]; exact Nat.mul_le_mul (by omega) hn
    by_cases h1 : d < C
    · have hd1 : decide ((d : Int) < C) = true := decide_eq_true (by omega)
      obtain ⟨q1, q2, q3⟩ := H.out
      have c1 := World.rowIs.cell q1 h1
      obtain ⟨z1, z2, z3⟩ := q2 d h1
      simp only [← hKM] at z3
      have HMK := Lib.hid (held_c (gs d) n n (k + KM) w (by omega) (by omega) (by omega) z3)
      have HN : Hid ((d + 1) * n = KM + n) := Lib.hid (by rw [Nat.add_mul, Nat.one_mul, ← hKM])
      have hnn : decide (k + (KM : Int) + n < 0) = false := decide_eq_false (by omega)
      clear q1 q2 q3 z3 hKM
      go_wp2_with fail
      refine HMK.out.mono ?_
      rintro e w2 ⟨rfl, rfl⟩
      clear HMK
      go_wp2
      go_roundw
      case rel => exact ⟨d + 1, KM + n, by go_num, vint (by omega), HN.out.symm, by omega, by trivial⟩
      case measure => simp [intOf]; omega
    · have hd1 : decide ((d : Int) < C) = false := decide_eq_false (by omega)
      obtain rfl : d = C := by omega
      have HK2 := Lib.hid hKM
      clear H hKM
      go_wp2
      go_ret
      exact ⟨by rw [HK2.out]; rfl, rfl⟩
theorem heldSS_none (k : Int) (w : World) : Calls Tryd.prog 29 #[.slice none 0 0, .int .i64 k] w fun e w' => e = .returned (.int .i64 k) ∧ w = w' := by
  go_enter Tryd.func29, Tryd.ntmps29
  go_wp2
  refine wp_loop_rounds 1 ?_
  rw [rounds_succ]
  go_wp2
  go_ret
  exact ⟨rfl, rfl⟩
theorem heldSS (B : Nat) (a : Option Addr) (n C cap : Nat) (k : Int) (w : World) (hn : n ≤ 4096) (hC : C ≤ 32) (k0 : 0 ≤ k) (k1 : k ≤ 500000000) (h : OwnU w B a n C cap (fun t j => k + ((t * n : Nat) : Int) + j)) : Calls Tryd.prog 29 #[.slice a C cap, .int .i64 k] w fun e w' => e = .returned (.int .i64 (k + ((C * n : Nat) : Int))) ∧ w = w' := by
  rcases h with ⟨rfl, rfl, rfl⟩ | ⟨g, gs, rfl, rfl, hg, h⟩
  · refine (heldSS_none k w).mono ?_
    rintro e w' ⟨rfl, rfl⟩
    exact ⟨by simp, rfl⟩
  · exact heldSS_some B g n _ gs k w hn hC k0 k1 h
/-- The answer of DigitParts has rows of one length. -/
theorem parts_u (f : Int) (l : List Int) (b c : Int) (hn : l.length ≤ 1048576) : ∃ (n C : Nat) (DG : Nat → Nat → Int), (mDigitParts0 f l b c).length = C ∧ C ≤ 32 ∧ n ≤ 4096 ∧ (∀ W a, SrcSS W a (mDigitParts0 f l b c) → SrcU W a n C DG) ∧ ∀ W B a cap, OwnSS W B a (mDigitParts0 f l b c) cap → OwnU W B a n C cap DG := by
  by_cases h : okPart f l b c
  · rw [show mDigitParts0 f l b c = (List.range c.toNat).map (digF8 l b) by unfold mDigitParts0; rw [if_pos h]]
    have hc := h.2.2.1
    have hl := h.1.pos.2
    refine ⟨l.length, c.toNat, fun d j => lf (digF8 l b d) j, parts_len _ _ _, by omega, by omega, fun W a hs => ?_, fun W B a cap hs => ?_⟩
    · rcases hs with hs | ⟨bb, off, rfl, hlt, hcell⟩
      · rw [parts_len] at hs; omega
      · refine .inr ⟨bb, off, rfl, hlt, fun d hd => ?_⟩
        obtain ⟨a', c', e1, e2⟩ := hcell d (by rw [parts_len]; exact hd)
        rw [part_get hd, digF8_len] at e1 e2
        exact ⟨a', c', e1, e2⟩
    · rcases hs with ⟨_, _, hs⟩ | ⟨g, rfl, hcap, hB, gs, h1, h2, h3⟩
      · rw [parts_len] at hs; omega
      · rw [parts_len] at hcap h1 h2 h3
        refine .inr ⟨g, gs, rfl, hcap, hB, World.rowIs.congr h1 fun t ht => by rw [part_get ht, digF8_len], fun t ht => ?_, h3⟩
        obtain ⟨z1, z2, z3⟩ := h2 t ht
        rw [part_get ht, digF8_len] at z3
        exact ⟨z1, z2, z3⟩
  · rw [show mDigitParts0 f l b c = [] by unfold mDigitParts0; rw [if_neg h]]
    refine ⟨0, 0, fun _ _ => 0, rfl, by omega, by omega, fun W a _ => .inl rfl, fun W B a cap hs => ?_⟩
    rcases hs with ⟨h1, h2, _⟩ | ⟨g, rfl, hcap, hB, gs, h1, _, _⟩
    · exact .inl ⟨h1, h2, rfl⟩
    · exact .inr ⟨g, gs, rfl, hcap, hB, World.rowIs.congr h1 fun t ht => absurd ht (by simp), fun t ht => absurd ht (by omega), fun t t' ht => absurd ht (by omega)⟩
end Go.Proofs.YtoonpnfhcmghmabDoor
