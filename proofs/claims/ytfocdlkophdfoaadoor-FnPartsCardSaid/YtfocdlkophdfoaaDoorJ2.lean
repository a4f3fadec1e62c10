/-
  Texts of the proofs of this seat, joined (part 2).
-/
import Derived.Deep.CutBlock
import Derived.Deep.CutRange
import Derived.Lib.SliceRun
import Derived.RangeFuncBox
import Derived.RangeFuncLeaves
import Derived.RangeFuncCalls
import Derived.Shelf.Abstract
import Derived.OwnWalkIn
import Derived.TacticsInMore
import Derived.LoopNIn
import Derived.LoopIn
import Derived.StillTailTactics
import Derived.Maps.AppendAt
import Derived.Stop.RegionWithIn
import Derived.Outline
import Derived.ChangeSlices
import Derived.Test.YtfocdlkophdfoaaDoorJ1
namespace Go.Proofs.YtfocdlkophdfoaaDoor
open Go.RowKit
theorem info22 : (Tryd.prog.info? 24).map (fun i => (i.zero, i.size, i.bytes)) = some (some (.slice none 0 0), 1, 24) := by kernel_rfl
/-- A list of lists in memory. -/
def SrcSS (W : World) (a : Option Addr) (L : List (List Int)) : Prop := L.length = 0 ∨ ∃ b off, a = some ⟨b, off, none⟩ ∧ b < W.heap.size ∧ ∀ d, d < L.length → ∃ a' c', W.cell? ⟨b, off + d, none⟩ = some (.slice a' (L.getD d []).length c') ∧ Src W a' (L.getD d []).length (lf (L.getD d []))
theorem SrcSS.keep {W W' : World} {a : Option Addr} {L : List (List Int)} (h : SrcSS W a L) (hb : Below W.heap.size W W') : SrcSS W' a L := by
  rcases h with h | ⟨b, off, rfl, hlt, hc⟩
  · exact .inl h
  · refine .inr ⟨b, off, rfl, Nat.lt_of_lt_of_le hlt hb.size, fun d hd => ?_⟩
    obtain ⟨a', c', h1, h2⟩ := hc d hd
    exact ⟨a', c', (hb.cell (p := ⟨b, off + d, none⟩) hlt).trans h1, h2.keep hb⟩
def ListSSB (w : World) (L : List (List Int)) (bb : Bool) (e : Ending) (w' : World) : Prop := ∃ a cap, e = .returned (.tuple #[.slice a L.length cap, .bool bb]) ∧ SrcSS w' a L ∧ Below w.heap.size w w'
theorem grown_up {w W W' : World} {g : Nat} {row : Option Nat} (h : w.grownBy W (some g)) (h2 : W.grownBy W' row) (hr : ∀ k, row = some k → w.heap.size ≤ k) : w.grownBy W' (some g) :=
  ⟨h2.os.trans h.os, h2.tape.trans h.tape, h2.output.trans h.output, Nat.le_trans h.size h2.size, fun i hi hne =>
    (h2.block i (Nat.lt_of_lt_of_le hi h.size) (fun e => by have := hr i e.symm; omega)).trans (h.block i hi hne)⟩
theorem OwnV.grownR {row : Option Nat} {w w' : World} {g n cap : Nat} {F : Nat → Int} (h : OwnV w g n cap F) (hg : w.grownBy w' row) (hne : some g ≠ row) : OwnV w' g n cap F := by
  have hlt := h.lt
  obtain ⟨V, h1, h2, h3⟩ := h
  exact ⟨V, World.rowIs.of_block h1 (hg.block g hlt hne), h2, h3⟩
theorem own_ne {W : World} {base D g n c : Nat} {v : Value} {xs : List Value} {F : Nat → Int} (h : W.ownsRow base 24 1 v D xs) (h2 : OwnV W g n c F) : some g ≠ v.ownBlock := by
  intro e
  obtain ⟨V, ⟨cur, hh, _⟩, _⟩ := h2
  rcases h.2 with ⟨rfl, _⟩ | ⟨g', cap', cur', rfl, hb, hg, _⟩
  · simp [Value.ownBlock] at e
  · have e2 : g = g' := by simpa [Value.ownBlock] using e
    rw [e2, hg] at hh
    injection hh with hh
    injection hh with _ hh _
    exact absurd hh (by decide)
/-- The parts so far: rows of their own, none of them the row gl. -/
def Parts (W : World) (base gl n D : Nat) (DG : Nat → Nat → Int) (v : Value) : Prop := ∃ vs : Nat → Value, W.ownsRow base 24 1 v D ((List.range D).map vs) ∧ ∀ d, d < D → ∃ g c, vs d = .slice (some ⟨g, 0, none⟩) n c ∧ base ≤ g ∧ g ≠ gl ∧ OwnV W g n c (DG d)
theorem Parts.kept {W W' : World} {base gl n D cl : Nat} {DG : Nat → Nat → Int} {v : Value} {F : Nat → Int} (h : Parts W base gl n D DG v) (hg : W.grownBy W' (some gl)) (hgl : OwnV W gl n cl F) : Parts W' base gl n D DG v := by
  obtain ⟨vs, ho, hd⟩ := h
  refine ⟨vs, ho.kept hg (.inr fun e => own_ne ho hgl e.symm), fun d hd' => ?_⟩
  obtain ⟨g, c, e, hb, hne, hv⟩ := hd d hd'
  exact ⟨g, c, e, hb, hne, hv.grown hg hne⟩
theorem Parts.add {W w1 : World} {base gl n D gp cp : Nat} {DG : Nat → Nat → Int} {v v' : Value} {vs : Nat → Value} {o : Obj} (ho : W.ownsRow base 24 1 v D ((List.range D).map vs))
    (hd : ∀ d, d < D → ∃ g c, vs d = .slice (some ⟨g, 0, none⟩) n c ∧ base ≤ g ∧ g ≠ gl ∧ OwnV W g n c (DG d)) (hp : base ≤ gp) (hne : gp ≠ gl) (hv : OwnV W gp n cp (DG D))
    (hown' : w1.ownsRow base 24 1 v' (D + 1) ((List.range D).map vs ++ [.slice (some ⟨gp, 0, none⟩) n cp])) (hgrow : (W.alloc o).grownBy w1 v.ownBlock) : Parts w1 base gl n (D + 1) DG v' := by
  have hk : ∀ {g c F}, OwnV W g n c F → OwnV w1 g n c F := fun {g c F} h =>
    (h.grownR (World.grownBy_alloc W o none) (by simp)).grownR hgrow (own_ne ho h)
  refine ⟨fun d => if d = D then .slice (some ⟨gp, 0, none⟩) n cp else vs d, ?_, fun d hd' => ?_⟩
  · rw [List.range_succ, List.map_append, List.map_congr_left (g := vs) (fun d hd' => if_neg (by have := List.mem_range.1 hd'; omega))]
    simpa using hown'
  · by_cases e : d = D
    · exact ⟨gp, cp, if_pos e, hp, hne, e ▸ hk hv⟩
    · obtain ⟨g, c, e1, hb, hne, hv⟩ := hd d (by omega)
      exact ⟨g, c, (if_neg e).trans e1, hb, hne, hk hv⟩
theorem Parts.src {W : World} {base gl n D : Nat} {DG : Nat → Nat → Int} {v : Value} {L : List (List Int)} (h : Parts W base gl n D DG v) (h0 : 0 < D) (hL : L.length = D) (hl : ∀ d, d < D → (L.getD d []).length = n ∧ ∀ j, j < n → DG d j = lf (L.getD d []) j) : ∃ a cap, v = .slice a D cap ∧ SrcSS W a L := by
  obtain ⟨vs, ho, hd⟩ := h
  rcases ho.2 with ⟨_, h1⟩ | ⟨g, cap, cur, rfl, hb, hg, h1, h2, h3, h4⟩
  · omega
  · refine ⟨_, cap, rfl, .inr ⟨g, 0, rfl, (Array.getElem?_eq_some_iff.1 hg).1, fun d hd' => ?_⟩⟩
    rw [hL] at hd'
    obtain ⟨g2, c, e, _, _, hv⟩ := hd d hd'
    obtain ⟨l1, l2⟩ := hl d hd'
    refine ⟨some ⟨g2, 0, none⟩, c, ?_, ?_⟩
    · have := ho.cellAt d (by omega)
      rw [Nat.zero_add, this, l1, ← e]
      simp [hd']
    · rw [l1]
      exact (hv.congr l2).src
theorem own_empty22 (w : World) : (w.alloc (.cells #[] 24)).ownsRow w.heap.size 24 1 (.slice (some ⟨w.heap.size, 0, none⟩) 0 0) 0 [] := World.ownsRow_made w #[] 0 (Nat.le_refl _) (by decide) rfl
theorem sBase_yes (b : Int) (w : World) (h : 2 ≤ b ∧ b ≤ 65536) : Calls Tryd.prog 25 #[.int .i64 b] w fun e w' => e = .returned (.bool true) ∧ w = w' := by
  go_enter Tryd.func25, Tryd.ntmps25
  go_wp2_with fail
  refine (in_yes b 2 65536 w h.1 h.2).mono ?_
  rintro e w' ⟨rfl, rfl⟩
  go_wp2
  go_ret
  exact ⟨rfl, rfl⟩
theorem sBase_no (b : Int) (w : World) (h : ¬ (2 ≤ b ∧ b ≤ 65536)) : Calls Tryd.prog 25 #[.int .i64 b] w fun e w' => e = .returned (.bool false) ∧ w = w' := by
  go_enter Tryd.func25, Tryd.ntmps25
  go_wp2_with fail
  refine (in_no b 2 65536 w (by omega)).mono ?_
  rintro e w' ⟨rfl, rfl⟩
  go_wp2
  go_ret
  exact ⟨rfl, rfl⟩
set_option maxRecDepth 100000 in
set_option maxHeartbeats 3200000 in
theorem sDigitParts_on (f b : Int) (a : Option Addr) (l : List Int) (cap C : Nat) (w : World) (hn : l.length ≤ 1048576) (hs : Src w a l.length (lf l)) (h : okPart f l b C) : Calls Tryd.prog 7 #[.int .i64 f, .slice a l.length cap, .int .i64 b, .int .i64 C] w (ListSSB w ((List.range C).map (digF8 l b)) true) := by
  obtain ⟨i0, hi, hz0, hz1, hz2⟩ := info_parts info3
  have HI := Lib.hid hi
  have HZ0 := Lib.hid hz0
  have HZ1 := Lib.hid hz1
  have HZ2 := Lib.hid hz2
  obtain ⟨i2, hi2, hy0, hy1, hy2⟩ := info_parts info22
  have HI2 := Lib.hid hi2
  have HY0 := Lib.hid hy0
  have HY1 := Lib.hid hy1
  have HY2 := Lib.hid hy2
  clear hi hz0 hz1 hz2 hi2 hy0 hy1 hy2
  obtain ⟨hv, ⟨hb0, hb5⟩, hc, hP⟩ := h
  rw [Int.toNat_natCast] at hP
  have HV : Hid (Calls Tryd.prog 24 #[.int .i64 f, .slice a l.length cap] w (SameB w true)) := Lib.hid (by have := sVectorOk f a l cap w hn hs; rwa [vok_iff.2 hv] at this)
  have HCP : Hid (∀ W, Below w.heap.size w W → Calls Tryd.prog 27 #[.slice a l.length cap] W fun e w' => ∃ v, e = .returned v ∧ w'.ownsRow W.heap.size 3 1 v l.length (xsF (lf l) l.length) ∧ Below W.heap.size W w') := Lib.hid fun W hb => copy_c a l.length cap (lf l) W hn (hs.keep hb)
  have hn0 := hv.pos.1
  have hn5 := hv.pos.2
  have h08 := hv.f08
  have hp := P_bd h08.1 h08.2
  have HA := Lib.hid hv.lt
  have HR0 : Hid (b ^ 0 = 1) := Lib.hid (Int.pow_zero b)
  have HRS : Hid (∀ d, b ^ d * b = b ^ (d + 1)) := Lib.hid fun d => (Int.pow_succ b d).symm
  have HRP : Hid (∀ d, 1 ≤ b ^ d) := Lib.hid fun d => Int.pow_pos (show 0 < b by omega)
  have HDS : Hid (∀ j d, lf l j / b ^ d / b = lf l j / b ^ (d + 1)) := Lib.hid fun j d => dig_step hb0 (lf l j) d
  have HD : Hid (∀ d j, j < l.length → lf (digF8 l b d) j = lf l j / b ^ d % b) := Lib.hid fun d j hj => lf_digF8 hj
  have HF : Hid (∀ v W gl, Parts W w.heap.size gl l.length C (fun d j => lf l j / b ^ d % b) v → Below w.heap.size w W → ListSSB w ((List.range C).map (digF8 l b)) true (.returned (.tuple #[v, .bool true])) W) := Lib.hid fun v W gl hp hb => by
    obtain ⟨a2, c2, rfl, hs2⟩ := hp.src (L := (List.range C).map (digF8 l b)) (by omega) (parts_len l b C) (fun d hd => by
      rw [part_get hd]
      exact ⟨digF8_len l b d, fun j hj => (lf_digF8 hj).symm⟩)
    exact ⟨a2, c2, by rw [parts_len], hs2, hb⟩
  generalize hR : (fun d : Nat => b ^ d) = R at *
  have HR : Hid (∀ d, b ^ d = R d) := Lib.hid fun d => by rw [← hR]
  simp only [HR.out] at HR0 HRS HRP HDS HD HF hP
  clear hs hv hR HR HD
  generalize ((List.range C).map (digF8 l b)) = OL at *
  generalize lf l = A at *
  generalize l.length = n at *
  have kz : (b == 0) = false := by rw [beq_eq_false_iff_ne]; omega
  have kz2 : ¬ b = 0 := by omega
  go_enter Tryd.func7, Tryd.ntmps7
  go_wp2_with fail
  refine HV.out.mono ?_
  rintro e w' ⟨rfl, rfl⟩
  clear HV
  go_wp2_with fail
  refine (sBase_yes b w ⟨hb0, hb5⟩).mono ?_
  rintro e w' ⟨rfl, rfl⟩
  go_wp2_with fail
  refine (in_yes C 1 32 w hc.1 hc.2).mono ?_
  rintro e w' ⟨rfl, rfl⟩
  go_upto_block 0 with fail
  go_cut [10, 11] from 31 (fun r _ wc => ∃ r0 : Int, r = .int .i64 r0 ∧ P f ≤ r0 ∧ w = wc)
  case first =>
    clear HCP HDS HF HA
    go_wp2_with fail
    go_loopw [10, 11] (fun r i wr => ∃ d : Nat, i = .int .i64 d ∧ d ≤ C ∧ r = .int .i64 (R d) ∧ w = wr) (fun _ i _ => C - (intOf i).toNat)
    case atStart => exact ⟨0, rfl, Nat.zero_le _, by rw [HR0.out], rfl⟩
    case round =>
      obtain ⟨d, rfl, hd, rfl, rfl⟩ := hrel
      by_cases h1 : d < C
      · have hd1 : decide ((d : Int) < C) = true := decide_eq_true (by omega)
        have hr1 := HRP.out d
        by_cases h2 : R d < P f
        · have hd2 : decide (R d < P f) = true := decide_eq_true h2
          have e1 := HRS.out d
          have hm : R d * b ≤ 1004535809 * 65536 := Int.mul_le_mul (by omega) hb5 (by omega) (by omega)
          have hm0 : 0 ≤ R d * b := Int.mul_nonneg (by omega) (by omega)
          have q1 : IntKind.i64.wrap (R d * b) = R d * b := IntWalk.i64_in _ (by omega)
          go_wp2_with fail
          refine (sModulus f w).mono ?_
          rintro e w' ⟨rfl, rfl⟩
          go_wp2
          go_roundw
          case rel => exact ⟨d + 1, by go_num, by omega, by first | rfl | rw [e1], by trivial⟩
          case measure => simp [intOf]; omega
        · have hd2 : decide (R d < P f) = false := decide_eq_false h2
          go_wp2_with fail
          refine (sModulus f w).mono ?_
          rintro e w' ⟨rfl, rfl⟩
          go_wp2
          go_meet
          case rel => exact ⟨R d, rfl, by omega, rfl⟩
      · have hd1 : decide ((d : Int) < C) = false := decide_eq_false (by omega)
        obtain rfl : d = C := by omega
        go_wp2
        go_meet
        case rel => exact ⟨R d, rfl, hP, rfl⟩
  case rest =>
    obtain ⟨r0, rfl, hr0, rfl⟩ := hcut
    have hd0 : decide (r0 < P f) = false := decide_eq_false (by omega)
    go_wp2_with fail
    refine (sModulus f w).mono ?_
    rintro e w' ⟨rfl, rfl⟩
    go_wp2_with fail
    refine (HCP.out _ ((Below.refl _ _).alloc (Nat.le_refl _) _)).mono ?_
    rintro e w1 ⟨v1, rfl, ho1, hb1⟩
    obtain ⟨gl, cl, rfl, hgl, hov⟩ := OwnV.of_owns ho1 (by omega)
    have hgl0 : w.heap.size ≤ gl := by simp at hgl; omega
    have HOL0 : Hid (OwnV w1 gl n cl (fun j => A j / R 0)) := Lib.hid (hov.congr fun j _ => by rw [HR0.out, Int.ediv_one])
    have HPA : Hid (Parts w1 w.heap.size gl n 0 (fun d j => A j / R d % b) (.slice (some ⟨w.heap.size, 0, none⟩) 0 0)) := Lib.hid ⟨fun _ => .bool true, by
      have h1 := own_empty22 w
      have h2 := h1.kept (row := none) ⟨hb1.os, hb1.tape, hb1.output, hb1.size, fun i hi _ => hb1.block i hi⟩ (.inr (by simp [Value.ownBlock]))
      simpa using h2, fun d hd => absurd hd (by omega)⟩
    have hbw : Below w.heap.size w w1 := below_up ((Below.refl _ _).alloc (Nat.le_refl _) (.cells #[] 24)) hb1 (by simp)
    clear ho1 hov HCP hb1 hgl
    go_wp2_with fail
    go_loopw [12, 14, 15, 16] (fun v i _ _ wr => ∃ d : Nat, i = .int .i64 d ∧ d ≤ C ∧ Hid (Parts wr w.heap.size gl n d (fun d j => A j / R d % b) v) ∧ Hid (OwnV wr gl n cl (fun j => A j / R d)) ∧ Below w.heap.size w wr) (fun _ i _ _ _ => C - (intOf i).toNat)
    case atStart => exact ⟨0, rfl, Nat.zero_le _, HPA, HOL0, hbw⟩
    case round =>
      clear HPA HOL0 hbw
      obtain ⟨d, rfl, hd, HPA, HOL, hb⟩ := hrel
      by_cases h1 : d < C
      · have hd1 : decide ((d : Int) < C) = true := decide_eq_true (by omega)
        have hglt := HOL.out.lt
        generalize wr = W0 at *
        have HOL0 : Hid (OwnV (W0.alloc (.cells #[] 3)) gl n cl (fun t => if t < 0 then A t / R (d + 1) else A t / R d)) := Lib.hid ((HOL.out.grownR (World.grownBy_alloc W0 _ none) (by simp)).congr fun t _ => by simp)
        have hg0 : W0.grownBy (W0.alloc (.cells #[] 3)) (some gl) := World.grownBy_alloc W0 _ _
        have HE := Lib.hid (own_empty W0 (fun t => A t / R d % b))
        go_wp2_with fail
        go_loopw [15, 16] (fun v i W => ∃ j : Nat, i = .int .i64 j ∧ j ≤ n ∧ W.ownsRow W0.heap.size 3 1 v j (xsF (fun t => A t / R d % b) j) ∧ Hid (OwnV W gl n cl (fun t => if t < j then A t / R (d + 1) else A t / R d)) ∧ W0.grownBy W (some gl)) (fun _ i _ => n - (intOf i).toNat)
        case atStart => exact ⟨0, rfl, Nat.zero_le _, HE.out, HOL0, hg0⟩
        case round =>
          clear HE HOL0 hg0
          obtain ⟨j, rfl, hj, hown, HO, hg⟩ := hrel
          by_cases h2 : j < n
          · have hd2 : decide ((j : Int) < n) = true := decide_eq_true (by omega)
            have hgs := hg.size
            have cL := HO.out.cell h2
            simp only [Nat.lt_irrefl, if_false] at cL
            have hA := HA.out j
            have hY : A j / R d / b = A j / R (d + 1) := HDS.out j d
            have hX0 : 0 ≤ A j / R d := Int.ediv_nonneg hA.1 (by have := HRP.out d; omega)
            have hX1 : A j / R d ≤ A j := Int.ediv_le_self _ hA.1
            have t1 : (A j / R d).tdiv b = A j / R (d + 1) := by rw [Int.tdiv_eq_ediv_of_nonneg hX0, hY]
            have t2 : (A j / R d).tmod b = A j / R d % b := Int.tmod_eq_emod_of_nonneg hX0
            have HX := Lib.hid (xsF_succ (fun t => A t / R d % b) j)
            have hY0 : 0 ≤ A j / R (d + 1) := Int.ediv_nonneg hA.1 (by have := HRP.out (d + 1); omega)
            have hY1 : A j / R (d + 1) ≤ A j := Int.ediv_le_self _ hA.1
            have HUP : Hid (∀ W : World, OwnV W gl n cl (fun t => if t < j then A t / R (d + 1) else A t / R d) → OwnV (W.setCell ⟨gl, j, none⟩ (.int .i64 (A j / R (d + 1)))) gl n cl (fun t => if t < j + 1 then A t / R (d + 1) else A t / R d)) := Lib.hid fun W hW => (OwnV.set (s := j) (x := A j / R (d + 1)) hW).congr fun t _ => by
              show (if t = j then A j / R (d + 1) else (if t < j then A t / R (d + 1) else A t / R d)) = _
              by_cases e1 : t = j
              · rw [if_pos e1, if_pos (by omega), e1]
              · rw [if_neg e1]
                by_cases e2 : t < j
                · rw [if_pos e2, if_pos (by omega)]
                · rw [if_neg e2, if_neg (by omega)]
            generalize A j / R d % b = Z at *
            generalize A j / R (d + 1) = Y at *
            generalize A j / R d = X at *
            clear hY
            go_wp2_with (at_builtin; refine wpList_append_own _ rfl _ _ 24 rfl W0.heap.size 3 i0 (.int .i64 0) 1 8 Tryd.underlying24 HI.out HZ0.out HZ1.out HZ2.out rfl (by decide) _ _ _ rfl (hown.alloc _) ⟨wr.heap.size, 0, none⟩ 1 1 [.int .i64 Z] rfl rfl ?c1 ?c2 ?c3 ?c4 ?c5 ?_)
            case c1 => exact cell_one_new _ _ _
            case c2 => first | rfl | (intro u hu; simp at hu; subst hu; rfl)
            case c3 => unfold maxLen; omega
            case c4 => omega
            case c5 => first | omega | (simp; omega)
            intro v' w2 hown' hgrow _
            have hgx : some gl ≠ _ := fun e => by have := own_ge hown gl e.symm; omega
            have HO2 := (HO.out.grownR (World.grownBy_alloc wr (.cells #[.int .i64 Z] 3) none) (by simp)).grownR hgrow hgx
            have cL2 : w2.cell? ⟨gl, j, none⟩ = some (.int .i64 X) := by
              have := hgrow.cell (((World.grownBy_alloc wr (.cells #[.int .i64 Z] 3) none)).cell cL (by simp)) hgx
              exact this
            have fL := HO2.frozen j
            have HS1 := Lib.hid (HUP.out w2 HO2)
            have HS2 := Lib.hid (ownsRow_setCell_below (a := ⟨gl, j, none⟩) (by rw [HX.out] at hown'; exact hown') (show gl < W0.heap.size from hglt) (.int .i64 Y))
            have HG2 : Hid (W0.grownBy (w2.setCell ⟨gl, j, none⟩ (.int .i64 Y)) (some gl)) := Lib.hid (grown_set (grown_up (grown_up hg (World.grownBy_alloc wr (.cells #[.int .i64 Z] 3) none) (by simp)) hgrow (own_ge hown)) _ _)
            clear hgrow hown hown' HO HO2 hg HUP HX hgx cL
            go_wp2
            go_roundw
            case rel => exact ⟨j + 1, by go_num, by omega, HS2.out, HS1, HG2.out⟩
            case measure => simp [intOf]; omega
          · have hd2 : decide ((j : Int) < n) = false := decide_eq_false (by omega)
            obtain rfl : j = n := by omega
            obtain ⟨gp, cp, rfl, hgp, hpv⟩ := OwnV.of_owns hown (by omega)
            have HP2 := HPA.out.kept hg HOL.out
            have HPV := Lib.hid hpv
            have HO2 : Hid (OwnV wr gl j cl (fun t => A t / R (d + 1))) := Lib.hid (HO.out.congr fun t ht => if_pos ht)
            have hbr : Below w.heap.size w wr := hb.grown hg hb.size (fun k hk => by injection hk with hk; omega)
            have hbs := hbr.size
            have hps : w.heap.size ≤ gp := by have := hb.size; omega
            have hpl : gp ≠ gl := by omega
            clear hown hpv HO HPA HOL hg hb
            obtain ⟨vs, ho, hdd⟩ := HP2
            have HDD := Lib.hid hdd
            clear hdd
            go_wp2_with (at_builtin; refine wpList_append_own _ rfl _ _ 27 rfl w.heap.size 24 i2 (.slice none 0 0) 1 24 Tryd.underlying27 HI2.out HY0.out HY1.out HY2.out rfl (by decide) _ _ _ rfl (ho.alloc _) ⟨wr.heap.size, 0, none⟩ 1 1 [.slice (some ⟨gp, 0, none⟩) j cp] rfl rfl ?c1 ?c2 ?c3 ?c4 ?c5 ?_)
            case c2 => first | rfl | (intro u hu; simp at hu; subst hu; rfl)
            case c3 => unfold maxLen; omega
            case c4 => omega
            case c5 => first | omega | (simp; omega)
            intro v' w2 hown' hgrow _
            have HPN := Lib.hid (Parts.add ho HDD.out hps hpl HPV.out hown' hgrow)
            have HON : Hid (OwnV w2 gl j cl (fun t => A t / R (d + 1))) := Lib.hid ((HO2.out.grownR (World.grownBy_alloc wr (.cells #[.slice (some ⟨gp, 0, none⟩) j cp] 24) none) (by simp)).grownR hgrow (own_ne ho HO2.out))
            have HBN : Below w.heap.size w w2 := (hbr.alloc hbs _).grown hgrow (by simp; omega) (own_ge ho)
            clear hgrow hown' ho HDD HPV HO2 hbr
            go_wp2
            go_roundw
            case rel => exact ⟨d + 1, by go_num, by omega, HPN, HON, HBN⟩
            case measure => simp [intOf]; omega
      · have hd1 : decide ((d : Int) < C) = false := decide_eq_false (by omega)
        obtain rfl : d = C := by omega
        have HL := Lib.hid (HF.out _ _ _ HPA.out hb)
        clear HPA HOL HF
        go_wp2
        go_ret2
        exact HL.out
theorem pow_le8 {b : Int} (hb : 2 ≤ b) {d C : Nat} (h : d ≤ C) : b ^ d ≤ b ^ C := by
  obtain ⟨k, rfl⟩ : ∃ k, C = d + k := ⟨C - d, by omega⟩
  rw [Int.pow_add]
  have h1 : 1 ≤ b ^ k := Int.pow_pos (show 0 < b by omega)
  have h2 : 0 < b ^ d := Int.pow_pos (show 0 < b by omega)
  have h3 := Int.mul_le_mul_of_nonneg_left h1 (show 0 ≤ b ^ d by omega)
  omega
theorem nilSSB (w : World) : ListSSB w [] false (.returned (.tuple #[.slice none 0 0, .bool false])) w := ⟨none, 0, rfl, .inl rfl, Below.refl _ _⟩
set_option maxRecDepth 100000 in
set_option maxHeartbeats 1600000 in
theorem sDigitParts_off (f b c : Int) (a : Option Addr) (l : List Int) (cap : Nat) (w : World) (hn : l.length ≤ 1048576) (hs : Src w a l.length (lf l)) (h : ¬ okPart f l b c) : Calls Tryd.prog 7 #[.int .i64 f, .slice a l.length cap, .int .i64 b, .int .i64 c] w (ListSSB w [] false) := by
  have R1 := sVectorOk f a l cap w hn hs
  by_cases hv : VecOk f l
  rotate_left
  · rw [vok_not.2 hv] at R1
    have HV := Lib.hid R1
    clear hs h hv R1
    go_enter Tryd.func7, Tryd.ntmps7
    go_wp2_with fail
    refine HV.out.mono ?_
    rintro e w' ⟨rfl, rfl⟩
    go_wp2
    go_ret2
    exact nilSSB w
  rw [vok_iff.2 hv] at R1
  have HV := Lib.hid R1
  by_cases hb : 2 ≤ b ∧ b ≤ 65536
  rotate_left
  · clear hs h hv R1
    go_enter Tryd.func7, Tryd.ntmps7
    go_wp2_with fail
    refine HV.out.mono ?_
    rintro e w' ⟨rfl, rfl⟩
    go_wp2_with fail
    refine (sBase_no b w hb).mono ?_
    rintro e w' ⟨rfl, rfl⟩
    clear hb
    go_wp2
    go_ret2
    exact nilSSB w
  by_cases hc : 1 ≤ c ∧ c ≤ 32
  rotate_left
  · clear hs h hv R1
    go_enter Tryd.func7, Tryd.ntmps7
    go_wp2_with fail
    refine HV.out.mono ?_
    rintro e w' ⟨rfl, rfl⟩
    go_wp2_with fail
    refine (sBase_yes b w hb).mono ?_
    rintro e w' ⟨rfl, rfl⟩
    go_wp2_with fail
    refine (in_no c 1 32 w (by omega)).mono ?_
    rintro e w' ⟨rfl, rfl⟩
    clear hb hc
    go_wp2
    go_ret2
    exact nilSSB w
  obtain ⟨C, rfl⟩ : ∃ C : Nat, c = C := ⟨c.toNat, by omega⟩
  have hP : b ^ C < P f := Int.lt_of_not_ge fun hp => h ⟨hv, hb, hc, by rw [Int.toNat_natCast]; exact hp⟩
  have hp := P_bd hv.f08.1 hv.f08.2
  have HR0 : Hid (b ^ 0 = 1) := Lib.hid (Int.pow_zero b)
  have HRS : Hid (∀ d, b ^ d * b = b ^ (d + 1)) := Lib.hid fun d => (Int.pow_succ b d).symm
  have HRP : Hid (∀ d, 1 ≤ b ^ d) := Lib.hid fun d => Int.pow_pos (show 0 < b by omega)
  have HRL : Hid (∀ d, d ≤ C → b ^ d ≤ b ^ C) := Lib.hid fun d hd => pow_le8 hb.1 hd
  generalize hR : (fun d : Nat => b ^ d) = R at *
  have HR : Hid (∀ d, b ^ d = R d) := Lib.hid fun d => by rw [← hR]
  simp only [HR.out] at HR0 HRS HRP HRL hP
  obtain ⟨hb0, hb5⟩ := hb
  clear hs hv hR HR h R1
  go_enter Tryd.func7, Tryd.ntmps7
  go_wp2_with fail
  refine HV.out.mono ?_
  rintro e w' ⟨rfl, rfl⟩
  clear HV
  go_wp2_with fail
  refine (sBase_yes b w ⟨hb0, hb5⟩).mono ?_
  rintro e w' ⟨rfl, rfl⟩
  go_wp2_with fail
  refine (in_yes C 1 32 w hc.1 hc.2).mono ?_
  rintro e w' ⟨rfl, rfl⟩
  go_wp2_with fail
  go_loopw [10, 11] (fun r i wr => ∃ d : Nat, i = .int .i64 d ∧ d ≤ C ∧ r = .int .i64 (R d) ∧ w = wr) (fun _ i _ => C - (intOf i).toNat)
  case atStart => exact ⟨0, rfl, Nat.zero_le _, by rw [HR0.out], rfl⟩
  case round =>
    obtain ⟨d, rfl, hd, rfl, rfl⟩ := hrel
    have hr1 := HRP.out d
    have hl := HRL.out d hd
    have hd2 : decide (R d < P f) = true := decide_eq_true (by omega)
    by_cases h1 : d < C
    · have hd1 : decide ((d : Int) < C) = true := decide_eq_true (by omega)
      have e1 := HRS.out d
      have hm : R d * b ≤ 1004535809 * 65536 := Int.mul_le_mul (by omega) hb5 (by omega) (by omega)
      have hm0 : 0 ≤ R d * b := Int.mul_nonneg (by omega) (by omega)
      have q1 : IntKind.i64.wrap (R d * b) = R d * b := IntWalk.i64_in _ (by omega)
      go_wp2_with fail
      refine (sModulus f w).mono ?_
      rintro e w' ⟨rfl, rfl⟩
      go_wp2
      go_roundw
      case rel => exact ⟨d + 1, by go_num, by omega, by first | rfl | rw [e1], by trivial⟩
      case measure => simp [intOf]; omega
    · have hd1 : decide ((d : Int) < C) = false := decide_eq_false (by omega)
      obtain rfl : d = C := by omega
      go_wp2_with fail
      refine (sModulus f w).mono ?_
      rintro e w' ⟨rfl, rfl⟩
      go_wp2
      go_ret2
      exact nilSSB w
theorem sDigitParts (f : Int) (a : Option Addr) (l : List Int) (cap : Nat) (b c : Int) (w : World) (hn : l.length ≤ 1048576) (hs : Src w a l.length (lf l)) : Calls Tryd.prog 7 #[.int .i64 f, .slice a l.length cap, .int .i64 b, .int .i64 c] w (ListSSB w (mDigitParts0 f l b c) (mDigitParts1 f l b c)) := by
  by_cases h : okPart f l b c
  · rw [show mDigitParts0 f l b c = (List.range c.toNat).map (digF8 l b) by unfold mDigitParts0; rw [if_pos h], show mDigitParts1 f l b c = true by simp only [mDigitParts1, decide_eq_true_eq]; exact h]
    obtain ⟨C, rfl⟩ : ∃ C : Nat, c = C := ⟨c.toNat, by have := h.2.2.1; omega⟩
    rw [Int.toNat_natCast]
    exact sDigitParts_on f b a l cap C w hn hs h
  · rw [show mDigitParts0 f l b c = [] by unfold mDigitParts0; rw [if_neg h], show mDigitParts1 f l b c = false by simp only [mDigitParts1, decide_eq_false_iff_not]; exact h]
    exact sDigitParts_off f b c a l cap w hn hs h
end Go.Proofs.YtfocdlkophdfoaaDoor
namespace Go.Proofs.YtfocdlkophdfoaaDoor
open Go.RowKit
theorem Src.congr {w : World} {a : Option Addr} {n : Nat} {F G : Nat → Int} (h : Src w a n F) (e : ∀ j, j < n → F j = G j) : Src w a n G := by
  refine h.imp id ?_
  rintro ⟨b, off, e1, hlt, hc⟩
  exact ⟨b, off, e1, hlt, fun j hj => by rw [hc j hj, e j hj]⟩
end Go.Proofs.YtfocdlkophdfoaaDoor
namespace Go.Proofs.YtfocdlkophdfoaaDoor
open Go.RowKit
theorem mLog_le (n : Int) : mLog n ≤ 9 := by
  rcases log_cases n with ⟨k, hk, _, hl⟩ | ⟨_, hl⟩ <;> omega
set_option maxHeartbeats 800000 in
theorem iVectorOk (f : Int) (a : Option Addr) (l : List Int) (cap : Nat) (w : World) (hn : l.length ≤ 1048576) (hs : Src w a l.length (lf l)) (ht : Tab w) : Calls Tryd.prog 28 #[.int .i64 f, .slice a l.length cap] w (SameB w (mVectorOk f l)) := by
  have hl9 := mLog_le l.length
  by_cases hk : hasK f (mLog l.length)
  · have H1 := Lib.hid (hasRoots_yes f (mLog l.length) w ht hk hl9)
    obtain ⟨h0, h8⟩ := hk.1
    have hv : mVectorOk f l = true ↔ AllIn f l := by
      rw [vok_iff]
      exact ⟨fun h => h.2, fun h => ⟨(hasK_iff f _).1 hk, h⟩⟩
    have H2 := Lib.hid (hasAll_c f a l cap w ht h0 h8 hn hs (mVectorOk f l) hv)
    clear hs hv hk hl9
    have H3 := Lib.hid (iLogOf l.length w)
    generalize mLog l.length = L at *
    go_enter Tryd.func28, Tryd.ntmps28
    go_wp2_with fail
    refine H3.out.mono ?_
    rintro e w' ⟨rfl, rfl⟩
    go_wp2_with fail
    refine H1.out.mono ?_
    rintro e w' ⟨rfl, rfl⟩
    go_wp2_with fail
    refine H2.out.mono ?_
    rintro e w' ⟨rfl, rfl⟩
    go_wp2
    go_ret
    exact ⟨rfl, rfl⟩
  · have H1 := Lib.hid (hasRoots_no f (mLog l.length) w ht (fun h => hk h.1))
    have HB := Lib.hid (vok_not.2 fun h : VecOk f l => hk ((hasK_iff f _).2 h.1))
    clear hs hk hl9
    have H3 := Lib.hid (iLogOf l.length w)
    generalize mLog l.length = L at *
    go_enter Tryd.func28, Tryd.ntmps28
    go_wp2_with fail
    refine H3.out.mono ?_
    rintro e w' ⟨rfl, rfl⟩
    go_wp2_with fail
    refine H1.out.mono ?_
    rintro e w' ⟨rfl, rfl⟩
    go_wp2
    go_ret
    exact ⟨by rw [HB.out]; rfl, rfl⟩
set_option maxHeartbeats 800000 in
theorem areVectors_c (f : Int) (a a2 : Option Addr) (l m : List Int) (cap cap2 : Nat) (w : World) (hn : l.length ≤ 1048576) (hn2 : m.length ≤ 1048576) (hs : Src w a l.length (lf l)) (hs2 : Src w a2 m.length (lf m)) (ht : Tab w) : Calls Tryd.prog 56 #[.int .i64 f, .slice a l.length cap, .slice a2 m.length cap2] w (SameB w (mTwo f l m)) := by
  by_cases he : l.length = m.length
  · have hd : ((l.length : Int) == m.length) = true := by rw [beq_iff_eq]; omega
    have R1 := iVectorOk f a l cap w hn hs ht
    have R2 := iVectorOk f a2 m cap2 w hn2 hs2 ht
    by_cases h1 : VecOk f l
    · rw [vok_iff.2 h1] at R1
      have HM : Hid (mTwo f l m = mVectorOk f m) := Lib.hid (by
        by_cases h2 : VecOk f m
        · rw [vok_iff.2 h2, two_iff.2 ⟨he, h1, h2⟩]
        · rw [vok_not.2 h2, two_not.2 fun h => h2 h.2.2])
      have HR1 := Lib.hid R1
      have HR2 := Lib.hid R2
      clear R1 R2 hs hs2 h1 he
      go_enter Tryd.func56, Tryd.ntmps56
      go_wp2_with fail
      refine HR1.out.mono ?_
      rintro e w' ⟨rfl, rfl⟩
      go_wp2_with fail
      refine HR2.out.mono ?_
      rintro e w' ⟨rfl, rfl⟩
      go_wp2
      go_ret
      exact ⟨by rw [HM.out]; rfl, rfl⟩
    · rw [vok_not.2 h1] at R1
      have HM := Lib.hid (two_not.2 fun h : TwoOk f l m => h1 h.2.1)
      have HR1 := Lib.hid R1
      clear R1 R2 hs hs2 h1 he
      go_enter Tryd.func56, Tryd.ntmps56
      go_wp2_with fail
      refine HR1.out.mono ?_
      rintro e w' ⟨rfl, rfl⟩
      go_wp2
      go_ret
      exact ⟨by rw [HM.out]; rfl, rfl⟩
  · have hd : ((l.length : Int) == m.length) = false := by rw [beq_eq_false_iff_ne]; omega
    have HM := Lib.hid (two_not.2 fun h : TwoOk f l m => he h.1)
    clear hs hs2 he
    go_enter Tryd.func56, Tryd.ntmps56
    go_wp2
    go_ret
    exact ⟨by rw [HM.out]; rfl, rfl⟩
end Go.Proofs.YtfocdlkophdfoaaDoor
namespace Go.Proofs.YtfocdlkophdfoaaDoor
open Go.RowKit
theorem clone_c (b off n cap : Nat) (F : Nat → Int) (w : World) (hn0 : 0 < n) (hn : n ≤ 1048576) (hlt : b < w.heap.size) (hc : ∀ j, j < n → w.cell? ⟨b, off + j, none⟩ = some (.int .i64 (F j))) :
    Calls Tryd.prog 33 #[.slice (some ⟨b, off, none⟩) n cap] w fun e w' => ∃ g c, e = .returned (.slice (some ⟨g, 0, none⟩) n c) ∧ w.heap.size ≤ g ∧ OwnV w' g n c F ∧ Below w.heap.size w w' := by
  obtain ⟨i0, hi, hz0, hz1, hz2⟩ := info_parts info3
  have HI := Lib.hid hi
  have HZ0 := Lib.hid hz0
  have HZ1 := Lib.hid hz1
  have HZ2 := Lib.hid hz2
  have HC := Lib.hid hc
  clear hi hz0 hz1 hz2 hc
  have hx : (xsF F n).length = n := by unfold xsF; simp
  have ho0 : (w.alloc (.cells #[] 3)).ownsRow w.heap.size 3 1 (.slice (some ⟨w.heap.size, 0, none⟩) 0 0) 0 [] := World.ownsRow_made w #[] 0 (Nat.le_refl _) (by decide) rfl
  have hq := Go.Lib.run_eql_slice_nil (P := Tryd.prog) w 24 3 (some ⟨b, off, none⟩) n cap 0 0 Tryd.underlying24
  go_enter Tryd.func33, Tryd.ntmps33
  go_wp2_with (at_builtin; refine wpList_append_own _ rfl _ _ 24 rfl w.heap.size 3 i0 (.int .i64 0) 1 8 Tryd.underlying24 HI.out HZ0.out HZ1.out HZ2.out rfl (by decide) _ _ _ rfl ho0 ⟨b, off, none⟩ n cap (xsF F n) rfl (by rw [hx]; omega) ?c1 ?c2 ?c3 ?c4 ?c5 ?_)
  case c1 =>
    intro j u hu
    have hj : j < n := by
      rcases Nat.lt_or_ge j n with h | h
      · exact h
      · rw [List.getElem?_eq_none (by omega)] at hu; cases hu
    have e : (xsF F n)[j]? = some (.int .i64 (F j)) := by simp [xsF, hj]
    rw [e] at hu
    injection hu with hu
    subst hu
    have h9 := (((Below.refl w.heap.size w).alloc (Nat.le_refl _) (.cells #[] 3)).cell (p := ⟨b, off + j, none⟩) hlt).trans (HC.out j hj)
    have e9 : (⟨b, off, none⟩ : Addr).add j = ⟨b, off + j, none⟩ := by
      simp only [Addr.add]
      split <;> simp_all
    rw [e9]
    exact h9
  case c2 =>
    intro u hu
    unfold xsF at hu
    obtain ⟨j, _, rfl⟩ := List.mem_map.1 hu
    rfl
  case c3 => unfold maxLen; omega
  case c4 => omega
  case c5 => simp
  intro v' w1 hown hgrow _
  obtain ⟨g, c, rfl, hg, hv⟩ := OwnV.of_owns hown (by omega)
  have HV := Lib.hid hv
  have hb : Below w.heap.size w w1 := ((Below.refl w.heap.size w).alloc (Nat.le_refl _) (.cells #[] 3)).grown hgrow (by simp) (own_ge ho0)
  clear hown hgrow ho0 hv
  go_wp2
  go_ret
  exact ⟨g, c, rfl, hg, HV.out, hb⟩
theorem hasDigits_c (x b : Int) (C : Nat) (w : World) (hx : 0 ≤ x ∧ x ≤ 4000000000) (hb : 2 ≤ b ∧ b ≤ 65536) (hC : C ≤ 32) : Calls Tryd.prog 31 #[.int .i64 x, .int .i64 b, .int .i64 C] w fun e w' => e = .returned (.bool (decide (x < b ^ C))) ∧ w = w' := by
  have HR0 : Hid (x / b ^ 0 = x) := Lib.hid (by rw [Int.pow_zero, Int.ediv_one])
  have HRS : Hid (∀ d, x / b ^ d / b = x / b ^ (d + 1)) := Lib.hid fun d => dig_step hb.1 x d
  have HB : Hid (∀ d, 0 ≤ x / b ^ d ∧ x / b ^ d ≤ x) := Lib.hid fun d => ⟨Int.ediv_nonneg hx.1 (by have := pow_pos8 hb.1 d; omega), Int.ediv_le_self _ hx.1⟩
  have HE : Hid ((x / b ^ C == 0) = decide (x < b ^ C)) := Lib.hid (by
    rw [Bool.eq_iff_iff, beq_iff_eq, decide_eq_true_eq]
    exact dig_none hb.1 hx.1 C)
  have kz : (b == 0) = false := by rw [beq_eq_false_iff_ne]; omega
  have kz2 : ¬ b = 0 := by omega
  generalize decide (x < b ^ C) = res at *
  generalize hR : (fun d : Nat => x / b ^ d) = R at *
  have HR : Hid (∀ d, x / b ^ d = R d) := Lib.hid fun d => by rw [← hR]
  simp only [HR.out] at HR0 HRS HB HE
  clear hR HR
  go_enter Tryd.func31, Tryd.ntmps31
  go_wp2_with fail
  go_loopw [0, 8] (fun y i wr => ∃ d : Nat, i = .int .i64 d ∧ d ≤ C ∧ y = .int .i64 (R d) ∧ w = wr) (fun _ i _ => C - (intOf i).toNat)
  case atStart => exact ⟨0, rfl, Nat.zero_le _, by rw [HR0.out], rfl⟩
  case round =>
    obtain ⟨d, rfl, hd, rfl, rfl⟩ := hrel
    have hB := HB.out d
    by_cases h1 : d < C
    · have hd1 : decide ((d : Int) < C) = true := decide_eq_true (by omega)
      have hB2 := HB.out (d + 1)
      have t1 : (R d).tdiv b = R (d + 1) := by rw [Int.tdiv_eq_ediv_of_nonneg hB.1, HRS.out]
      generalize hYY : R (d + 1) = Y at *
      go_wp2
      go_roundw
      case rel => exact ⟨d + 1, by go_num, by omega, by rw [hYY], by trivial⟩
      case measure => simp [intOf]; omega
    · have hd1 : decide ((d : Int) < C) = false := decide_eq_false (by omega)
      obtain rfl : d = C := by omega
      have hE := HE.out
      go_wp2
      go_ret
      exact ⟨rfl, rfl⟩
theorem isBase_c (b : Int) (w : World) : Calls Tryd.prog 29 #[.int .i64 b] w fun e w' => e = .returned (.bool (decide (2 ≤ b ∧ b ≤ 65536))) ∧ w = w' := by
  by_cases h1 : 2 ≤ b
  · have d1 : decide (2 ≤ b) = true := decide_eq_true h1
    by_cases h2 : b ≤ 65536
    · have d2 : decide (b ≤ 65536) = true := decide_eq_true h2
      rw [show decide (2 ≤ b ∧ b ≤ 65536) = true from decide_eq_true ⟨h1, h2⟩]
      go_enter Tryd.func29, Tryd.ntmps29
      go_wp2
      go_ret
      exact ⟨rfl, rfl⟩
    · have d2 : decide (b ≤ 65536) = false := decide_eq_false h2
      rw [show decide (2 ≤ b ∧ b ≤ 65536) = false from decide_eq_false fun h => h2 h.2]
      go_enter Tryd.func29, Tryd.ntmps29
      go_wp2
      go_ret
      exact ⟨rfl, rfl⟩
  · have d1 : decide (2 ≤ b) = false := decide_eq_false h1
    rw [show decide (2 ≤ b ∧ b ≤ 65536) = false from decide_eq_false fun h => h1 h.1]
    go_enter Tryd.func29, Tryd.ntmps29
    go_wp2
    go_ret
    exact ⟨rfl, rfl⟩
theorem isPartCount_c (b : Int) (w : World) : Calls Tryd.prog 30 #[.int .i64 b] w fun e w' => e = .returned (.bool (decide (1 ≤ b ∧ b ≤ 32))) ∧ w = w' := by
  by_cases h1 : 1 ≤ b
  · have d1 : decide (1 ≤ b) = true := decide_eq_true h1
    by_cases h2 : b ≤ 32
    · have d2 : decide (b ≤ 32) = true := decide_eq_true h2
      rw [show decide (1 ≤ b ∧ b ≤ 32) = true from decide_eq_true ⟨h1, h2⟩]
      go_enter Tryd.func30, Tryd.ntmps30
      go_wp2
      go_ret
      exact ⟨rfl, rfl⟩
    · have d2 : decide (b ≤ 32) = false := decide_eq_false h2
      rw [show decide (1 ≤ b ∧ b ≤ 32) = false from decide_eq_false fun h => h2 h.2]
      go_enter Tryd.func30, Tryd.ntmps30
      go_wp2
      go_ret
      exact ⟨rfl, rfl⟩
  · have d1 : decide (1 ≤ b) = false := decide_eq_false h1
    rw [show decide (1 ≤ b ∧ b ≤ 32) = false from decide_eq_false fun h => h1 h.1]
    go_enter Tryd.func30, Tryd.ntmps30
    go_wp2
    go_ret
    exact ⟨rfl, rfl⟩
/-- A list of lists in memory of its own, no list empty. -/
def OwnSS (W : World) (B : Nat) (a : Option Addr) (L : List (List Int)) (cap : Nat) : Prop := (a = none ∧ cap = 0 ∧ L.length = 0) ∨ ∃ g, a = some ⟨g, 0, none⟩ ∧ cap = L.length ∧ B ≤ g ∧ ∃ gs : Nat → Nat, W.rowIs g 24 L.length (fun t => .slice (some ⟨gs t, 0, none⟩) (L.getD t []).length (L.getD t []).length) ∧
  (∀ t, t < L.length → B ≤ gs t ∧ gs t ≠ g ∧ Own W (gs t) (L.getD t []).length (lf (L.getD t []))) ∧ ∀ t t', t < L.length → t' < L.length → t ≠ t' → gs t ≠ gs t'
def OwnSSB (w : World) (L : List (List Int)) (bb : Bool) (e : Ending) (w' : World) : Prop := ∃ a cap, e = .returned (.tuple #[.slice a L.length cap, .bool bb]) ∧ OwnSS w' w.heap.size a L cap ∧ Below w.heap.size w w'
theorem nil_ownSSB (w : World) : OwnSSB w [] false (.returned (.tuple #[.slice none 0 0, .bool false])) w := ⟨none, 0, rfl, .inl ⟨rfl, rfl, rfl⟩, Below.refl _ _⟩
/-- The spine g with d rows laid, of n elements each; none is the row gr. -/
def Laid8 (W : World) (B g gr n C d : Nat) (DG : Nat → Nat → Int) : Prop := ∃ gs : Nat → Nat, W.rowIs g 24 C (fun t => if t < d then .slice (some ⟨gs t, 0, none⟩) n n else .slice none 0 0) ∧
  (∀ t, t < d → B ≤ gs t ∧ gs t ≠ g ∧ gs t ≠ gr ∧ Own W (gs t) n (DG t)) ∧ ∀ t t', t < d → t' < d → t ≠ t' → gs t ≠ gs t'
theorem Laid8.kept {W W' : World} {B g gr n C d : Nat} {DG : Nat → Nat → Int} (h : Laid8 W B g gr n C d DG) (hg : ∀ i, i < W.heap.size → i ≠ gr → W'.heap[i]? = W.heap[i]?) (hne : g ≠ gr) : Laid8 W' B g gr n C d DG := by
  obtain ⟨gs, h1, h2, h3⟩ := h
  refine ⟨gs, World.rowIs.of_block h1 (hg g (World.rowIs.lt h1) hne), fun t ht => ?_, h3⟩
  obtain ⟨a1, a2, a3, a4⟩ := h2 t ht
  exact ⟨a1, a2, a3, World.rowIs.of_block a4 (hg _ a4.lt a3)⟩
/-- Two worlds, alike below the first one's end but for the rows p and q. -/
def Two8 (W1 W : World) (p q : Nat) : Prop := (W.os = W1.os ∧ W.tape = W1.tape ∧ W.output = W1.output) ∧ W1.heap.size ≤ W.heap.size ∧ ∀ i, i < W1.heap.size → i ≠ p → i ≠ q → W.heap[i]? = W1.heap[i]?
theorem Two8.refl (W : World) (p q : Nat) : Two8 W W p q := ⟨⟨rfl, rfl, rfl⟩, Nat.le_refl _, fun _ _ _ _ => rfl⟩
theorem Two8.set {W1 W : World} {p q g o : Nat} {v : Value} (h : Two8 W1 W p q) (hg : g = p ∨ g = q) : Two8 W1 (W.setCell ⟨g, o, none⟩ v) p q := by
  obtain ⟨⟨h1, h2, h3⟩, h4, h5⟩ := h
  refine ⟨⟨h1, h2, h3⟩, by simpa [World.setCell] using h4, fun i hi hp hq => ?_⟩
  rw [show (W.setCell ⟨g, o, none⟩ v).heap[i]? = W.heap[i]? from Below.heap_setCell W ⟨g, o, none⟩ v i (by show i ≠ g; rcases hg with rfl | rfl <;> assumption)]
  exact h5 i hi hp hq
theorem Two8.below {w W1 W : World} {p q : Nat} (h : Two8 W1 W p q) (hb : Below w.heap.size w W1) (hp : w.heap.size ≤ p) (hq : w.heap.size ≤ q) : Below w.heap.size w W :=
  hb.trans ⟨h.1.1, h.1.2.1, h.1.2.2, h.2.1, fun k hk => h.2.2 k (by have := hb.size; omega) (by omega) (by omega)⟩
end Go.Proofs.YtfocdlkophdfoaaDoor
namespace Go.Proofs.YtfocdlkophdfoaaDoor
open Go.RowKit Go.Shelf
attribute [local go_sem] Oper.semAt_some
/-- What a round keeps: whatever lay below n₀, and the two boxes that the iterator reads again. -/
def KeepsBoxes (n₀ Bn Ba : Nat) (W W' : World) : Prop := Below n₀ W W' ∧ W'.heap[Bn]? = W.heap[Bn]? ∧ W'.heap[Ba]? = W.heap[Ba]?
theorem cell_same {W W' : World} {B : Nat} (h : W'.heap[B]? = W.heap[B]?) (o : Nat) : W'.cell? ⟨B, o, none⟩ = W.cell? ⟨B, o, none⟩ := by
  unfold World.cell?
  simp only [h]
theorem Tab.from {n₀ : Nat} {w w' : World} (h : Tab w) (h0 : 0 < n₀) (hb : Below n₀ w w') : Tab w' := h.keep fun o => hb.cell (p := ⟨0, o, none⟩) h0
end Go.Proofs.YtfocdlkophdfoaaDoor
namespace Go.Proofs.YtfocdlkophdfoaaDoor
/-- The first n coefficients agree modulo p. -/
def EqN (p : Int) (n : Nat) (A B : Nat → Int) : Prop := ∀ i, i < n → A i % p = B i % p
theorem EqN.refl (p : Int) (n : Nat) (A : Nat → Int) : EqN p n A A := fun _ _ => rfl
theorem EqN.symm {p : Int} {n : Nat} {A B : Nat → Int} (h : EqN p n A B) : EqN p n B A := fun i hi => (h i hi).symm
theorem EqN.trans {p : Int} {n : Nat} {A B C : Nat → Int} (h : EqN p n A B) (k : EqN p n B C) : EqN p n A C := fun i hi => (h i hi).trans (k i hi)
theorem EqN.mono {p : Int} {n m : Nat} {A B : Nat → Int} (h : EqN p n A B) (hm : m ≤ n) : EqN p m A B := fun i hi => h i (by omega)
theorem EqN.mul {p : Int} {n : Nat} {A A' B B' : Nat → Int} (h : EqN p n A A') (k : EqN p n B B') : EqN p n (mulS A B) (mulS A' B') := fun i hi => by
  show cv i A B % p = cv i A' B' % p
  rw [cv_sum, cv_sum]
  exact sumN_mod fun j hj => emod_mul_congr (h j (by omega)) (k (i - j) (by omega))
def addS (A B : Nat → Int) : Nat → Int := fun j => A j + B j
theorem EqN.add {p : Int} {n : Nat} {A A' B B' : Nat → Int} (h : EqN p n A A') (k : EqN p n B B') : EqN p n (addS A B) (addS A' B') := fun i hi => emod_add_congr (h i hi) (k i hi)
theorem add_mulS (A B C : Nat → Int) : mulS (addS A B) C = addS (mulS A C) (mulS B C) := funext fun k => cv_add_l k A B C
/-- The coefficients times their places. -/
def thS (A : Nat → Int) : Nat → Int := fun i => (i : Int) * A i
theorem thS_mul (A B : Nat → Int) : thS (mulS A B) = addS (mulS (thS A) B) (mulS A (thS B)) := by
  funext k
  show (k : Int) * cv k A B = cv k (thS A) B + cv k A (thS B)
  rw [cv_sum, cv_sum, cv_sum, ← sumN_mul, ← sumN_add]
  exact sumN_congr fun i hi => by
    unfold thS
    have e : (k : Int) = (i : Int) + ((k - i : Nat) : Int) := by omega
    rw [e, Int.add_mul]
    congr 1
    · rw [Int.mul_assoc]
    · rw [← Int.mul_assoc, ← Int.mul_assoc, Int.mul_comm (A i)]
theorem thS_add (A B : Nat → Int) : thS (addS A B) = addS (thS A) (thS B) := funext fun _ => Int.mul_add _ _ _
theorem EqN.th {p : Int} {n : Nat} {A B : Nat → Int} (h : EqN p n A B) : EqN p n (thS A) (thS B) := fun i hi => emod_mul_congr rfl (h i hi)
/-- What does not vanish in a field can be cancelled. -/
theorem cancelF {f : Int} (h0 : 0 ≤ f) (h8 : f ≤ 8) {c x y : Int} (hc : c % P f ≠ 0) (h : (c * x) % P f = (c * y) % P f) : x % P f = y % P f := by
  have hz : RS c (P f) ≠ 0 := hc
  have hi := (inv_one h0 h8 hz).1
  obtain ⟨v, hv⟩ : ∃ v, mPower f c (-1) = v := ⟨_, rfl⟩
  rw [hv] at hi
  have e1 : (v * c) % P f = 1 % P f := by
    have h2 : (v * (c % P f)) % P f = 1 := hi
    rw [Int.mul_emod, Int.emod_emod_of_dvd c (Int.dvd_refl _), ← Int.mul_emod] at h2
    rw [h2, one_p h0 h8]
  have key : ∀ z : Int, (v * (c * z)) % P f = z % P f := fun z => by
    rw [← Int.mul_assoc, Int.mul_emod, e1, ← Int.mul_emod, Int.one_mul]
  rw [← key x, ← key y]
  exact emod_mul_congr rfl h
/-- Two series with one product by A, where A's first coefficient does not vanish. -/
theorem EqN.cancel {f : Int} (h0 : 0 ≤ f) (h8 : f ≤ 8) {n : Nat} {A B C : Nat → Int} (hA : A 0 % P f ≠ 0) (h : EqN (P f) n (mulS A B) (mulS A C)) : EqN (P f) n B C := by
  intro i
  induction i using Nat.strongRecOn with
  | ind i ih =>
    intro hi
    have hi2 := h i hi
    cases i with
    | zero => exact cancelF h0 h8 hA hi2
    | succ k =>
      have e1 : cv k (tl A) B % P f = cv k (tl A) C % P f := by
        rw [cv_sum, cv_sum]
        exact sumN_mod fun j hj => emod_mul_congr rfl (ih (k - j) (by omega) (by omega))
      have h2 : (A 0 * B (k + 1) + cv k (tl A) B) % P f = (A 0 * C (k + 1) + cv k (tl A) C) % P f := hi2
      have h3 : (A 0 * B (k + 1)) % P f = (A 0 * C (k + 1)) % P f := by
        rw [Int.emod_eq_emod_iff_emod_sub_eq_zero] at h2 e1 ⊢
        have e : A 0 * B (k + 1) + cv k (tl A) B - (A 0 * C (k + 1) + cv k (tl A) C) = (A 0 * B (k + 1) - A 0 * C (k + 1)) + (cv k (tl A) B - cv k (tl A) C) := by omega
        rw [e, Int.add_emod, e1, Int.add_zero, Int.emod_emod_of_dvd _ (Int.dvd_refl _)] at h2
        exact h2
      exact cancelF h0 h8 hA h3
/-- B is the inverse of A. -/
def IsInv (p : Int) (n : Nat) (A B : Nat → Int) : Prop := EqN p n (mulS A B) oneS
theorem IsInv.unique {p : Int} {n : Nat} {A B C : Nat → Int} (hB : IsInv p n A B) (hC : IsInv p n A C) : EqN p n B C := by
  have h1 : EqN p n (mulS B (mulS A C)) (mulS B oneS) := (EqN.refl p n B).mul hC
  have h2 : EqN p n (mulS (mulS A B) C) (mulS oneS C) := hB.mul (EqN.refl p n C)
  have e : mulS B (mulS A C) = mulS (mulS A B) C := by rw [← mul_assocS, mul_commS B A]
  rw [e, mul_commS B oneS, one_mul] at h1
  rw [one_mul] at h2
  exact h1.symm.trans h2
/-- The logarithm L and the series A that it is of. -/
def IsLog (p : Int) (n : Nat) (L A : Nat → Int) : Prop := EqN p n (thS A) (mulS (thS L) A)
/-- The logarithm of a product. -/
theorem IsLog.mul {p : Int} {n : Nat} {L M A B : Nat → Int} (hA : IsLog p n L A) (hB : IsLog p n M B) : IsLog p n (addS L M) (mulS A B) := by
  unfold IsLog at *
  rw [thS_mul, thS_add, add_mulS]
  refine EqN.add ?_ ?_
  · have := hA.mul (EqN.refl p n B)
    rwa [mul_assocS] at this
  · have := (EqN.refl p n A).mul hB
    rwa [← mul_assocS, mul_commS A (thS M), mul_assocS] at this
theorem IsInv.mul {p : Int} {n : Nat} {A B V W : Nat → Int} (hA : IsInv p n A V) (hB : IsInv p n B W) : IsInv p n (mulS A B) (mulS V W) := by
  unfold IsInv at *
  have e : mulS (mulS A B) (mulS V W) = mulS (mulS A V) (mulS B W) := by
    rw [mul_assocS, ← mul_assocS B V W, mul_commS B V, mul_assocS V B W, ← mul_assocS]
  rw [e]
  have := hA.mul hB
  rwa [one_mul] at this
/-- Powers. -/
theorem EqN.pow {p : Int} {n : Nat} {A B : Nat → Int} (h : EqN p n A B) : ∀ k : Nat, EqN p n (powS A k) (powS B k)
  | 0 => EqN.refl _ _ _
  | k + 1 => (EqN.pow h k).mul h
theorem pow_oneS (p : Int) (n : Nat) : ∀ k : Nat, EqN p n (powS oneS k) oneS
  | 0 => EqN.refl _ _ _
  | k + 1 => by
    have := (pow_oneS p n k).mul (EqN.refl p n oneS)
    rwa [one_mul] at this
theorem pow_mulS (A B : Nat → Int) : ∀ k : Nat, powS (mulS A B) k = mulS (powS A k) (powS B k)
  | 0 => (one_mul oneS).symm
  | k + 1 => by
    show mulS (powS (mulS A B) k) (mulS A B) = mulS (mulS (powS A k) A) (mulS (powS B k) B)
    rw [pow_mulS A B k, mul_assocS, mul_assocS, ← mul_assocS (powS B k) A B, mul_commS (powS B k) A, mul_assocS A (powS B k) B]
theorem IsInv.powers {p : Int} {n : Nat} {A V : Nat → Int} (h : IsInv p n A V) (k : Nat) : EqN p n (mulS (powS A k) (powS V k)) oneS := by
  rw [← pow_mulS]
  exact (EqN.pow h k).trans (pow_oneS p n k)
theorem IsInv.less {p : Int} {n : Nat} {A V : Nat → Int} (h : IsInv p n A V) (i k : Nat) : EqN p n (mulS (powS A (i + k)) (powS V k)) (powS A i) := by
  rw [pow_addS, mul_assocS]
  have := (EqN.refl p n (powS A i)).mul (h.powers k)
  rwa [mul_commS (powS A i) oneS, one_mul] at this
theorem IsInv.symm {p : Int} {n : Nat} {A V : Nat → Int} (h : IsInv p n A V) : IsInv p n V A := by
  unfold IsInv at *
  rwa [mul_commS]
end Go.Proofs.YtfocdlkophdfoaaDoor
namespace Go.Proofs.YtfocdlkophdfoaaDoor
/-- B starts with 1, and its square is A. -/
def IsSqrt (p : Int) (n : Nat) (B A : Nat → Int) : Prop := B 0 % p = 1 % p ∧ EqN p n (mulS B B) A
theorem two_ne {f : Int} (h0 : 0 ≤ f) (h8 : f ≤ 8) : (2 : Int) % P f ≠ 0 := by
  have h := P_bd h0 h8
  rw [Int.emod_eq_of_lt (by omega) (by omega)]
  omega
theorem IsSqrt.unique {f : Int} (h0 : 0 ≤ f) (h8 : f ≤ 8) {n : Nat} {A B C : Nat → Int} (hB : IsSqrt (P f) n B A) (hC : IsSqrt (P f) n C A) : EqN (P f) n B C := by
  have h1 := hB.2.trans hC.2.symm
  have hs : addS B C 0 % P f ≠ 0 := by
    have : (B 0 + C 0) % P f = (1 + 1) % P f := emod_add_congr hB.1 hC.1
    show (B 0 + C 0) % P f ≠ 0
    rw [this]
    exact two_ne h0 h8
  refine EqN.cancel h0 h8 hs ?_
  rw [add_mulS, add_mulS, mul_commS C B]
  intro i hi
  show (cv i B B + cv i B C) % P f = (cv i B C + cv i C C) % P f
  rw [Int.add_comm (cv i B C) (cv i C C)]
  exact emod_add_congr (h1 i hi) rfl
/-- S, signed, are what the identities ask of E (places from 1 on). -/
def sgnS (S : Nat → Int) : Nat → Int := fun k => if k = 0 then 0 else (-1) ^ (k - 1) * S (k - 1)
def IsNewt (p : Int) (n : Nat) (E S : Nat → Int) : Prop := EqN p (n + 1) (thS E) (mulS (sgnS S) E)
theorem pm_one : ∀ k : Nat, ((-1 : Int)) ^ k = 1 ∨ ((-1 : Int)) ^ k = -1
  | 0 => .inl rfl
  | k + 1 => by
    rw [Int.pow_succ]
    rcases pm_one k with h | h
    · exact .inr (by rw [h]; rfl)
    · exact .inl (by rw [h]; rfl)
theorem IsNewt.unique {f : Int} (h0 : 0 ≤ f) (h8 : f ≤ 8) {n : Nat} {E S T : Nat → Int} (hE : E 0 % P f ≠ 0) (hS : IsNewt (P f) n E S) (hT : IsNewt (P f) n E T) : EqN (P f) n S T := by
  have h1 : EqN (P f) (n + 1) (sgnS S) (sgnS T) := by
    have h2 := hS.symm.trans hT
    rw [mul_commS (sgnS S), mul_commS (sgnS T)] at h2
    exact h2.cancel h0 h8 hE
  intro i hi
  have h3 := h1 (i + 1) (by omega)
  have e : ∀ U : Nat → Int, sgnS U (i + 1) = (-1) ^ i * U i := fun U => rfl
  rw [e, e] at h3
  rcases pm_one i with h | h
  · rw [h, Int.one_mul, Int.one_mul] at h3; exact h3
  · rw [h] at h3
    have h4 : (-1 * (-1 * S i)) % P f = (-1 * (-1 * T i)) % P f := emod_mul_congr rfl h3
    rwa [← Int.mul_assoc, ← Int.mul_assoc, show (-1 : Int) * -1 = 1 by decide, Int.one_mul, Int.one_mul] at h4
end Go.Proofs.YtfocdlkophdfoaaDoor
namespace Go.Proofs.YtfocdlkophdfoaaDoor
def SerOk (f : Int) (l : List Int) : Prop := (0 ≤ f ∧ f ≤ 8) ∧ (1 ≤ l.length ∧ l.length ≤ 64) ∧ ∀ j, j < l.length → 0 ≤ lf l j ∧ lf l j < P f
theorem SerOk.all {f : Int} {l : List Int} (h : SerOk f l) (j : Nat) : 0 ≤ lf l j ∧ lf l j < P f := by
  have hp := P_bd h.1.1 h.1.2
  by_cases hj : j < l.length
  · exact h.2.2 j hj
  · rw [lf_out l (by omega)]; omega
/-- A list of n elements. -/
def Ser (f : Int) (n : Nat) (l : List Int) : Prop := l.length = n ∧ ∀ j, 0 ≤ lf l j ∧ lf l j < P f
/-- The first n of F, as elements. -/
def elL (f : Int) (n : Nat) (F : Nat → Int) : List Int := tab n fun i => RS (F i) (P f)
theorem elL_len (f : Int) (n : Nat) (F : Nat → Int) : (elL f n F).length = n := tab_len _ _
theorem lf_elL (f : Int) (n : Nat) (F : Nat → Int) (j : Nat) : lf (elL f n F) j = if j < n then RS (F j) (P f) else 0 := lf_tab _ _ _
def ShortOk (f : Int) (a : List Int) : Prop := SerOk f a ∧ (a.length : Int) ≤ P f
end Go.Proofs.YtfocdlkophdfoaaDoor
namespace Go.Proofs.YtfocdlkophdfoaaDoor
/-- O with one more value. -/
def more (O : Nat → Int) (k : Nat) (x : Int) : Nat → Int := fun j => if j < k then O j else x
end Go.Proofs.YtfocdlkophdfoaaDoor
namespace Go.Proofs.YtfocdlkophdfoaaDoor
theorem Ser.ok {f : Int} (hf : 0 ≤ f ∧ f ≤ 8) {n : Nat} {l : List Int} (h : Ser f n l) (n1 : 1 ≤ n) (n2 : n ≤ 64) : SerOk f l := ⟨hf, by rw [h.1]; exact ⟨n1, n2⟩, fun j _ => h.2 j⟩
end Go.Proofs.YtfocdlkophdfoaaDoor
namespace Go.Proofs.YtfocdlkophdfoaaDoor
theorem Ser.short {f : Int} {a x : List Int} (h : ShortOk f a) (hx : Ser f a.length x) : ShortOk f x := ⟨hx.ok h.1.1 h.1.2.1.1 h.1.2.1.2, by rw [hx.1]; exact h.2⟩
theorem IsLog.congr {p : Int} {n : Nat} {L M A B : Nat → Int} (h : IsLog p n L A) (hL : EqN p n M L) (hA : EqN p n B A) : IsLog p n M B := (hA.th.trans h).trans ((hL.th.mul hA).symm)
end Go.Proofs.YtfocdlkophdfoaaDoor
namespace Go.Proofs.YtfocdlkophdfoaaDoor
/-- A and c times B. -/
def mixS (A B : Nat → Int) (c : Int) : Nat → Int := fun i => A i + c * B i
end Go.Proofs.YtfocdlkophdfoaaDoor
namespace Go.Proofs.YtfocdlkophdfoaaDoor
open Go.RowKit
set_option maxRecDepth 100000 in
set_option maxHeartbeats 1600000 in
theorem mixed_some (f c : Int) (b off b2 off2 n cap cap2 : Nat) (A B : Nat → Int) (w : World) (ht : Tab w) (h0 : 0 ≤ f) (h8 : f ≤ 8) (c0 : 0 ≤ c) (c1 : c < P f) (hn : n ≤ 4096)
    (hA : ∀ j, 0 ≤ A j ∧ A j < P f) (hB : ∀ j, 0 ≤ B j ∧ B j < P f) (hlt : b < w.heap.size) (hlt2 : b2 < w.heap.size)
    (hc : ∀ j, j < n → w.cell? ⟨b, off + j, none⟩ = some (.int .i64 (A j))) (hc2 : ∀ j, j < n → w.cell? ⟨b2, off2 + j, none⟩ = some (.int .i64 (B j))) :
    Calls Tryd.prog 36 #[.int .i64 f, .slice (some ⟨b, off, none⟩) n cap, .slice (some ⟨b2, off2, none⟩) n cap2, .int .i64 c] w (OwnG w (elL f n (mixS A B c))) := by
  have HC := Lib.hid hc
  have HC2 := Lib.hid hc2
  have HA := Lib.hid hA
  have HB := Lib.hid hB
  clear hc hc2 hA hB
  have hp := P_bd h0 h8
  have hmk := made_n n (by omega)
  have HG : Hid (∀ wr, Own wr w.heap.size n (fun j => if j < n then RS (mixS A B c j) (P f) else 0) → Below w.heap.size w wr → OwnG w (elL f n (mixS A B c)) (.returned (.slice (some ⟨w.heap.size, 0, none⟩) n n)) wr) := Lib.hid fun wr ho hb => OwnG.of_own ho (elL_len _ _ _).symm (Nat.le_refl _) (fun j hj => by
    rw [lf_elL]) hb
  go_enter Tryd.func36, Tryd.ntmps36
  go_wp2_with fail
  clear hmk
  go_loopw [10, 11, 17] (fun _ _ i wr => ∃ k : Nat, i = .int .i64 k ∧ k ≤ n ∧ Own wr w.heap.size n (fun j => if j < k then RS (mixS A B c j) (P f) else 0) ∧ Below w.heap.size w wr) (fun _ _ i _ => n - (intOf i).toNat)
  case atStart =>
    refine ⟨0, rfl, Nat.zero_le _, ?_, (Below.refl _ _).alloc (Nat.le_refl _) _⟩
    exact (World.rowIs_made w (.int .i64 0) n 3).congr fun j _ => by simp
  case round =>
    obtain ⟨i, rfl, hi, ho, hb⟩ := hrel
    by_cases h1 : i < n
    · have d1 : wr.cell? ⟨b, off + i, none⟩ = some (.int .i64 (A i)) := (hb.cell (p := ⟨b, off + i, none⟩) hlt).trans (HC.out i h1)
      have d2 : wr.cell? ⟨b2, off2 + i, none⟩ = some (.int .i64 (B i)) := (hb.cell (p := ⟨b2, off2 + i, none⟩) hlt2).trans (HC2.out i h1)
      have bA := HA.out i
      have bB := HB.out i
      have pb := prod_bd h0 h8 c0 c1 bB.1 bB.2
      have c3 := World.rowIs.frozen ho i
      have c4 := World.rowIs.cell ho h1
      have HT := Lib.hid (ht.below hb)
      have HS := Lib.hid (own_step (F := fun j => RS (mixS A B c j) (P f)) ho)
      have HE : Hid (RS (A i + c * B i) (P f) = RS (mixS A B c i) (P f)) := Lib.hid rfl
      clear ho
      go_wp2_with fail
      refine (reduce_c f (A i + c * B i) wr HT.out h0 h8).mono ?_
      rintro e w' ⟨rfl, rfl⟩
      rw [HE.out]
      go_wp2
      go_roundw
      case rel => exact ⟨i + 1, by go_num, by omega, HS.out, hb.setCell (Nat.le_refl _) _⟩
      case measure => simp [intOf]; omega
    · have hd : decide (i < n) = false := by simpa using h1
      obtain rfl : i = n := by omega
      have HO := Lib.hid ho
      clear ho
      go_wp2
      go_ret
      exact HG.out wr HO.out hb
theorem mixed_c (f c : Int) (a a2 : Option Addr) (n cap cap2 : Nat) (A B : Nat → Int) (w : World) (ht : Tab w) (h0 : 0 ≤ f) (h8 : f ≤ 8) (c0 : 0 ≤ c) (c1 : c < P f) (n1 : 1 ≤ n) (hn : n ≤ 4096)
    (hA : ∀ j, 0 ≤ A j ∧ A j < P f) (hB : ∀ j, 0 ≤ B j ∧ B j < P f) (hs : Src w a n A) (hs2 : Src w a2 n B) :
    Calls Tryd.prog 36 #[.int .i64 f, .slice a n cap, .slice a2 n cap2, .int .i64 c] w (OwnG w (elL f n (mixS A B c))) := by
  rcases hs with h | ⟨b, off, rfl, hlt, hc⟩
  · omega
  rcases hs2 with h | ⟨b2, off2, rfl, hlt2, hc2⟩
  · omega
  exact mixed_some f c b off b2 off2 n cap cap2 A B w ht h0 h8 c0 c1 hn hA hB hlt hlt2 hc hc2
end Go.Proofs.YtfocdlkophdfoaaDoor
namespace Go.Proofs.YtfocdlkophdfoaaDoor
open Go.RowKit Go.Shelf
attribute [local go_sem] Oper.semAt_some
open Classical in
noncomputable def partsB (f : Int) (L : List (List Int)) : Bool := decide ((1 ≤ L.length ∧ L.length ≤ 32) ∧ ∀ d, d < L.length → TwoOk f (L.getD 0 []) (L.getD d []))
theorem partsB_yes {f : Int} {L : List (List Int)} (h : (1 ≤ L.length ∧ L.length ≤ 32) ∧ ∀ d, d < L.length → TwoOk f (L.getD 0 []) (L.getD d [])) : partsB f L = true := by
  simp only [partsB, decide_eq_true_eq]
  exact h
theorem partsB_no {f : Int} {L : List (List Int)} (h : ¬ ((1 ≤ L.length ∧ L.length ≤ 32) ∧ ∀ d, d < L.length → TwoOk f (L.getD 0 []) (L.getD d []))) : partsB f L = false := by
  simp only [partsB, decide_eq_false_iff_not]
  exact h
/-- A list of lists, its rows named. -/
theorem SrcSS.fn {W : World} {a : Option Addr} {L : List (List Int)} (h : SrcSS W a L) (h0 : 0 < L.length) : ∃ (b off : Nat) (A : Nat → Option Addr) (K : Nat → Nat), a = some ⟨b, off, none⟩ ∧ b < W.heap.size ∧ ∀ d, d < L.length → W.cell? ⟨b, off + d, none⟩ = some (.slice (A d) (L.getD d []).length (K d)) ∧ Src W (A d) (L.getD d []).length (lf (L.getD d [])) := by
  rcases h with h | ⟨b, off, rfl, hlt, hc⟩
  · omega
  · refine ⟨b, off, fun d => if hd : d < L.length then Classical.choose (hc d hd) else none, fun d => if hd : d < L.length then Classical.choose (Classical.choose_spec (hc d hd)) else 0, rfl, hlt, fun d hd => ?_⟩
    simp only [dif_pos hd]
    exact Classical.choose_spec (Classical.choose_spec (hc d hd))
set_option maxHeartbeats 1600000 in
theorem areParts_c (f : Int) (a : Option Addr) (L : List (List Int)) (cap : Nat) (w : World) (hC : L.length ≤ 1048576) (hl : ∀ d, (L.getD d []).length ≤ 1048576) (hs : SrcSS w a L) (ht : Tab w) :
    Calls Tryd.prog 34 #[.int .i64 f, .slice a L.length cap] w (SameB w (partsB f L)) := by
  have HPC := Lib.hid (isPartCount_c L.length w)
  by_cases hc : 1 ≤ L.length ∧ L.length ≤ 32
  rotate_left
  · have e1 : decide ((1 : Int) ≤ (L.length : Int) ∧ (L.length : Int) ≤ 32) = false := decide_eq_false (by omega)
    rw [e1] at HPC
    have e2 : partsB f L = false := partsB_no fun h => hc h.1
    rw [e2]
    clear hl hs ht e1 e2 hc hC
    generalize L.length = C at *
    go_enter Tryd.func34, Tryd.ntmps34
    go_wp2_with fail
    refine HPC.out.mono ?_
    rintro e w' ⟨rfl, rfl⟩
    go_wp2
    go_ret
    exact ⟨rfl, rfl⟩
  have e1 : decide ((1 : Int) ≤ (L.length : Int) ∧ (L.length : Int) ≤ 32) = true := decide_eq_true (by omega)
  rw [e1] at HPC
  obtain ⟨b, off, A, K, rfl, hlt, hrow⟩ := hs.fn (by omega)
  have HR := Lib.hid hrow
  have HAV : Hid (∀ d, d < L.length → Calls Tryd.prog 56 #[.int .i64 f, .slice (A 0) (L.getD 0 []).length (K 0), .slice (A d) (L.getD d []).length (K d)] w (SameB w (mTwo f (L.getD 0 []) (L.getD d [])))) := Lib.hid fun d hd =>
    areVectors_c f (A 0) (A d) (L.getD 0 []) (L.getD d []) (K 0) (K d) w (hl 0) (hl d) (hrow 0 (by omega)).2 (hrow d hd).2 ht
  have HY : Hid ((∀ d, d < L.length → TwoOk f (L.getD 0 []) (L.getD d [])) → partsB f L = true) := Lib.hid fun h => partsB_yes ⟨hc, h⟩
  have HN : Hid (∀ d, d < L.length → ¬ TwoOk f (L.getD 0 []) (L.getD d []) → partsB f L = false) := Lib.hid fun d hd h => partsB_no fun h2 => h (h2.2 d hd)
  have c0 : w.cell? ⟨b, off, none⟩ = some (.slice (A 0) (L.getD 0 []).length (K 0)) := by have := (hrow 0 (by omega)).1; rwa [Nat.add_zero] at this
  generalize partsB f L = R at *
  generalize L.length = C at *
  have hC1 : 0 < C := by omega
  have hC1i : (0 : Int) < (C : Int) := by omega
  have hC32 : C ≤ 32 := by omega
  clear e1 hrow hl ht hc hC
  go_enter Tryd.func34, Tryd.ntmps34
  go_wp2_with fail
  refine HPC.out.mono ?_
  rintro e w' ⟨rfl, rfl⟩
  clear HPC
  go_wp2_with fail
  go_loopw [6, 13] (fun _ i wr => ∃ d : Nat, i = .int .i64 d ∧ d ≤ C ∧ (∀ t, t < d → TwoOk f (L.getD 0 []) (L.getD t [])) ∧ w = wr) (fun _ i _ => C - (intOf i).toNat)
  case atStart => exact ⟨0, rfl, Nat.zero_le _, fun t ht => absurd ht (by omega), rfl⟩
  case round =>
    obtain ⟨d, rfl, hd, hall, rfl⟩ := hrel
    have HALL := Lib.hid hall
    clear hall
    by_cases h1 : d < C
    · have hd1 : decide ((d : Int) < C) = true := decide_eq_true (by omega)
      have i1 : (0 : Int) ≤ (d : Int) := by omega
      have i2 : (d : Int) < (C : Int) := by omega
      have cd := (HR.out d h1).1
      have HV := Lib.hid (HAV.out d h1)
      by_cases h2 : TwoOk f (L.getD 0 []) (L.getD d [])
      · have HA2 : Hid (∀ t, t < d + 1 → TwoOk f (L.getD 0 []) (L.getD t [])) := Lib.hid fun t ht => by
          by_cases e : t = d
          · rw [e]; exact h2
          · exact HALL.out t (by omega)
        rw [two_iff.2 h2] at HV
        clear h2 HALL
        generalize (L.getD 0 []).length = n0 at *
        generalize (L.getD d []).length = nd at *
        go_wp2_with fail
        refine HV.out.mono ?_
        rintro e w' ⟨rfl, rfl⟩
        go_wp2
        go_roundw
        case rel => exact ⟨d + 1, by go_num, by omega, HA2.out, by trivial⟩
        case measure => simp [intOf]; omega
      · have hR := HN.out d h1 h2
        rw [two_not.2 h2] at HV
        clear h2 HALL HY HN
        generalize (L.getD 0 []).length = n0 at *
        generalize (L.getD d []).length = nd at *
        go_wp2_with fail
        refine HV.out.mono ?_
        rintro e w' ⟨rfl, rfl⟩
        go_wp2
        go_ret
        exact ⟨by rw [hR]; rfl, rfl⟩
    · have hd1 : decide ((d : Int) < C) = false := decide_eq_false (by omega)
      obtain rfl : d = C := by omega
      have hR := HY.out HALL.out
      clear HALL HY HN HAV HR
      go_wp2
      go_ret
      exact ⟨by rw [hR]; rfl, rfl⟩
/-- The first j indices below c, from the last one on. -/
def rbk (c j : Nat) : List Nat := (List.range j).map fun t => c - 1 - t
theorem rbk_len (c j : Nat) : (rbk c j).length = j := by simp [rbk]
theorem rbk_succ (c j : Nat) : rbk c (j + 1) = rbk c j ++ [c - 1 - j] := by simp [rbk, List.range_succ]
theorem rbk_pre (c : Nat) {j k : Nat} (h : j ≤ k) : rbk c j <+: rbk c k := by
  refine ⟨((List.range k).drop j).map fun t => c - 1 - t, ?_⟩
  unfold rbk
  rw [← List.map_append]
  congr 1
  conv => rhs; rw [← List.take_append_drop j (List.range k)]
  rw [List.take_range, Nat.min_eq_left h]
set_option maxRecDepth 100000 in
set_option maxHeartbeats 1000000 in
theorem back1_in (n : Nat) (hn : 1 ≤ n) (l Bs n₀ b off C cap : Nat) (V : Nat → Value) (hC : C ≤ 1048576) (hb0 : b < n₀) (J Jx : List Nat → World → Prop)
    (hY : ∀ pre (x : Nat) W, J pre W → pre.length < C → YieldAt Fence.wide (n - 1) Tryd.prog l #[.int .i64 x, V x] W fun e W' =>
      (e = .returned (.bool true) ∧ J (pre ++ [x]) W' ∧ KeepsBoxes n₀ Bs Bs W W') ∨ (e = .returned (.bool false) ∧ Jx (pre ++ [x]) W'))
    (W : World) (hs : W.cell? ⟨Bs, 0, none⟩ = some (.slice (some ⟨b, off, none⟩) C cap)) (hv : ∀ d, d < C → W.cell? ⟨b, off + d, none⟩ = some (V d)) (hj : J [] W) :
    CallsIn Fence.wide n Tryd.prog 57 #[.func (.yield l) #[] #[], .pointer (some ⟨Bs, 0, none⟩)] W fun e W' => (∃ v, e = .returned v) ∧
      ((∃ ys, ys = rbk C C ∧ J ys W') ∨ (∃ pre, pre <+: rbk C C ∧ Jx pre W')) := by
  have HV := Lib.hid hv
  clear hv
  refine callsIn_of_wp Tryd.func57 rfl trivial ?_ rfl
  simp only [Tryd.ntmps57, List.size_toArray, List.length_cons, List.length_nil, Nat.reduceAdd, Nat.reduceSub, Array.replicate_succ, Array.replicate_zero, List.push_toArray, List.append_toArray, List.nil_append, List.cons_append]
  have q0 : IntKind.i64.wrap ((C : Int) - 1) = (C : Int) - 1 := IntWalk.i64_in _ (by omega)
  gi_wp2
  gi_loopw [3] (fun i wr => ∃ j : Nat, j ≤ C ∧ i = .int .i64 ((C : Int) - 1 - j) ∧ J (rbk C j) wr ∧ wr.cell? ⟨Bs, 0, none⟩ = some (.slice (some ⟨b, off, none⟩) C cap) ∧ Hid (∀ d, d < C → wr.cell? ⟨b, off + d, none⟩ = some (V d))) (fun i _ => (intOf i + 1).toNat)
  case atStart =>
    exact ⟨0, Nat.zero_le _, by simp, hj, hs, HV⟩
  case round =>
    clear HV hs hj
    obtain ⟨j, hjc, rfl, hJ, hs, HV⟩ := hrel
    by_cases hlt : j < C
    · obtain ⟨x, hx⟩ : ∃ x : Nat, (C : Int) - 1 - j = (x : Int) := ⟨C - 1 - j, by omega⟩
      have hxC : x < C := by omega
      have hx2 : C - 1 - j = x := by omega
      rw [hx] at *
      obtain ⟨fn, tmps, assign, body, hy, hR⟩ := hY (rbk C j) x wr hJ (by rw [rbk_len]; exact hlt)
      have cx := HV.out x hxC
      have i1 : (0 : Int) ≤ (x : Int) := by omega
      have i2 : (x : Int) < (C : Int) := by omega
      have i3 : decide ((0 : Int) ≤ (x : Int)) = true := decide_eq_true i1
      have q1 : IntKind.i64.wrap ((x : Int) - 1) = (x : Int) - 1 := IntWalk.i64_in _ (by omega)
      gi_wp2
      refine hR.mono ?_
      rintro e W3 (⟨rfl, hJ3, hk3⟩ | ⟨rfl, hJx3⟩)
      · have hs3 : W3.cell? ⟨Bs, 0, none⟩ = some (.slice (some ⟨b, off, none⟩) C cap) := (cell_same hk3.2.1 0).trans hs
        have HV3 : Hid (∀ d, d < C → W3.cell? ⟨b, off + d, none⟩ = some (V d)) := Lib.hid fun d hd => (hk3.1.cell (p := ⟨b, off + d, none⟩) hb0).trans (HV.out d hd)
        rw [← hx2, ← rbk_succ] at hJ3
        clear hR hy hk3 HV hs
        gi_wp2
        go_roundw
        case rel => exact ⟨j + 1, by omega, vint (by omega), hJ3, hs3, HV3⟩
        case measure => simp [intOf]
      · rw [← hx2, ← rbk_succ] at hJx3
        clear HV
        gi_wp2
        refine bodyPost_ret (results_none rfl _ _ _) rfl ?_
        exact ⟨⟨_, rfl⟩, .inr ⟨_, rbk_pre C (by omega), hJx3⟩⟩
    · obtain rfl : j = C := by omega
      have i3 : decide ((0 : Int) ≤ (j : Int) - 1 - (j : Int)) = false := decide_eq_false (by omega)
      clear HV
      gi_wp2
      go_end0
      exact ⟨⟨_, rfl⟩, .inl ⟨_, rfl, hJ⟩⟩
theorem back_stops (n : Nat) (hn : 1 ≤ n) (Bs n₀ b off C cap : Nat) (V : Nat → Value) (hC : C ≤ 1048576) (hb0 : b < n₀) (w : World) (hBs : Bs < w.heap.size) (hn0 : n₀ ≤ w.heap.size)
    (hs : w.cell? ⟨Bs, 0, none⟩ = some (.slice (some ⟨b, off, none⟩) C cap)) (hv : ∀ d, d < C → w.cell? ⟨b, off + d, none⟩ = some (V d)) :
    SeqStopsK Fence.wide n Tryd.prog 57 #[.pointer (some ⟨Bs, 0, none⟩)] (fun x : Nat => #[Value.int .i64 x, V x]) (KeepsBoxes n₀ Bs Bs) (fun ys => ys = rbk C C) (fun pre => pre <+: rbk C C) C w :=
  fun l J Jx W hW _ _ hY hj => back1_in n hn l Bs n₀ b off C cap V hC hb0 J Jx hY W
    ((hW.cell (p := ⟨Bs, 0, none⟩) hBs).trans hs) (fun d hd => (hW.cell (p := ⟨b, off + d, none⟩) (Nat.lt_of_lt_of_le hb0 hn0)).trans (hv d hd)) hj
theorem backward_c (v : Value) (w : World) (h : ∃ a n c, v = .slice a n c) : Calls Tryd.prog 35 #[v] w fun e w' =>
    e = .returned (.func (.func 57) #[] #[.pointer (some ⟨w.heap.size, 0, none⟩)]) ∧ w' = w.alloc (.cells #[v] 27) := by
  obtain ⟨a, n, c, rfl⟩ := h
  go_enter Tryd.func35, Tryd.ntmps35
  go_wp2
  go_ret
  exact ⟨rfl, rfl⟩
end Go.Proofs.YtfocdlkophdfoaaDoor
namespace Go.Proofs.YtfocdlkophdfoaaDoor
open Go.RowKit Go.Shelf
attribute [local go_sem] Oper.semAt_some
theorem hold_box {B n0 : Nat} {β : Type} (t : TypeId) (v : Value) : OwnFrom (β := β) B (fun _ W => Boxed W n0 t v) := fun _ _ _ _ hs hg hr =>
  (grownBy_keeps_cells hg (fun r e => (hr r e).2) hs rfl).trans hs
theorem hold_own {B g n : Nat} {β : Type} (F : β → Nat → Int) : OwnFrom (β := β) B (fun s W => Own W g n (F s)) := fun _ _ _ _ hs hg hr => by
  obtain ⟨cur, hh, hrest⟩ := hs
  exact ⟨cur, (grownBy_keeps_cells hg (fun r e => (hr r e).2) hh rfl).trans hh, hrest⟩
/-- What the loop of Rejoin holds: the sum so far. -/
def Joining (z Bb Bn Bs n : Nat) (f b : Int) (F : List Nat → Nat → Int) (w : World) (pre : List Nat) (W : World) : Prop :=
  (∃ g, z ≤ g ∧ g ≠ Bb ∧ g ≠ Bn ∧ g ≠ Bs ∧ g ≠ z + 4 ∧ Boxed W Bs 24 (.slice (some ⟨g, 0, none⟩) n n) ∧ Own W g n (F pre)) ∧ Boxed W Bn 49 (.int .i64 f) ∧ Boxed W Bb 3 (.int .i64 b) ∧ Below z w W ∧ z + 5 ≤ W.heap.size
theorem joining_from {z Bb Bn Bs n : Nat} {f b : Int} {F : List Nat → Nat → Int} {w : World} {B : Nat} (hz : z ≤ w.heap.size) (hB : z ≤ B) : OwnFrom B (Joining z Bb Bn Bs n f b F w) := fun s W W' row hs hg hr => by
  obtain ⟨⟨g, h1, h2, h3, h4, h5, h6, h7⟩, h8, h9, h10, h11⟩ := hs
  exact ⟨⟨g, h1, h2, h3, h4, h5, hold_box (B := B) _ _ s W W' row h6 hg hr, hold_own (B := B) F s W W' row h7 hg hr⟩, hold_box (B := B) _ _ s W W' row h8 hg hr, hold_box (B := B) _ _ s W W' row h9 hg hr, ownFrom_below (B := B) hz hB s W W' row h10 hg hr, Nat.le_trans h11 hg.size⟩
theorem joining_step {z Bb Bn Bs B4 n g' B x : Nat} {f b : Int} {F : List Nat → Nat → Int} {w W w4 : World} {pre : List Nat} (hz : z = w.heap.size) (hI : Joining z Bb Bn Bs n f b F w pre W) (d1 : Bb ≠ Bs) (d2 : Bn ≠ Bs) (d3 : B4 ≠ Bs) (d4 : B4 < W.heap.size) (zb : z ≤ Bs) (z4 : z + 4 < W.heap.size)
    (hb4 : Below W.drew.heap.size W.drew w4) (hg4 : W.drew.heap.size ≤ g') (ho4 : Own w4 g' n (F (pre ++ [x]))) :
    KeepsFrom B W (w4.setCell ⟨Bs, 0, none⟩ (.slice (some ⟨g', 0, none⟩) n n)) ∧ KeepsBoxes z B4 B4 W (w4.setCell ⟨Bs, 0, none⟩ (.slice (some ⟨g', 0, none⟩) n n)) ∧ Joining z Bb Bn Bs n f b F w (pre ++ [x]) (w4.setCell ⟨Bs, 0, none⟩ (.slice (some ⟨g', 0, none⟩) n n)) := by
  obtain ⟨⟨g, h1, h2, h3, h4, h5, h6, h7⟩, h8, h9, h10, h11⟩ := hI
  have hgr : W.grownBy w4 none := ⟨hb4.os, hb4.tape, hb4.output, hb4.size, fun i hi _ => hb4.block i hi⟩
  have hg5 : W.heap.size ≤ g' := hg4
  have l6 := h6.lt
  have l8 := h8.lt
  have l9 := h9.lt
  have x6 : Boxed w4 Bs 24 (.slice (some ⟨g, 0, none⟩) n n) := h6.kept hgr (by simp)
  have x8 : Boxed w4 Bn 49 (.int .i64 f) := h8.kept hgr (by simp)
  have x9 : Boxed w4 Bb 3 (.int .i64 b) := h9.kept hgr (by simp)
  have hbw : Below W.heap.size W w4 := ⟨hb4.os, hb4.tape, hb4.output, hb4.size, hb4.block⟩
  have hbz : Below z W w4 := hbw.mono (by omega)
  have hsz : W.heap.size ≤ w4.heap.size := hb4.size
  have hk : ∀ i, i < W.heap.size → i ≠ Bs → (w4.setCell ⟨Bs, 0, none⟩ (.slice (some ⟨g', 0, none⟩) n n)).heap[i]? = W.heap[i]? := fun i hi hne =>
    (Below.heap_setCell w4 ⟨Bs, 0, none⟩ _ i hne).trans (hb4.block i hi)
  refine ⟨((KeepsOthers.of_grownBy hgr (fun _ _ e => by cases e)).trans (KeepsOthers.setCell w4 _ _)).from B, ⟨hbz.setCell (p := ⟨Bs, 0, none⟩) zb _, hk B4 d4 d3, hk B4 d4 d3⟩, ⟨g', by omega, by omega, by omega, by omega, by omega, x6.set _, own_other ho4 (by omega)⟩, (Below.heap_setCell w4 ⟨Bs, 0, none⟩ _ Bn d2).trans x8, (Below.heap_setCell w4 ⟨Bs, 0, none⟩ _ Bb d1).trans x9, (h10.trans hbz).setCell (p := ⟨Bs, 0, none⟩) zb _, by simp only [World.setCell, Array.size_modify]; omega⟩
/-- Horner's sum over the indices that have come. -/
def joP (f b : Int) (LL : Nat → List Int) (pre : List Nat) (i : Nat) : Int := pre.foldl (fun acc d => RS (lf (LL d) i + RS b (P f) * acc) (P f)) 0
theorem joP_add (f b : Int) (LL : Nat → List Int) (pre : List Nat) (x i : Nat) : joP f b LL (pre ++ [x]) i = RS (lf (LL x) i + RS b (P f) * joP f b LL pre i) (P f) := by
  unfold joP
  rw [List.foldl_append]
  rfl
theorem joP_bd {f : Int} (hp : 0 < P f) (b : Int) (LL : Nat → List Int) (pre : List Nat) (i : Nat) : 0 ≤ joP f b LL pre i ∧ joP f b LL pre i < P f := by
  rcases List.eq_nil_or_concat pre with rfl | ⟨ys, x, rfl⟩
  · exact ⟨Int.le_refl _, hp⟩
  · rw [List.concat_eq_append, joP_add]
    exact RS_bd hp
theorem joP_rbk (f b : Int) (L : List (List Int)) (LL : Nat → List Int) (hLL : ∀ d, d < L.length → LL d = L.getD d []) (i : Nat) : ∀ j, j ≤ L.length → joP f b LL (rbk L.length j) i = hoF f L b i (L.length - j)
  | 0, _ => by rw [Nat.sub_zero, ho_end]; rfl
  | j + 1, h => by
    rw [rbk_succ, joP_add, joP_rbk f b L LL hLL i j (by omega), hLL _ (by omega), show L.length - j = (L.length - 1 - j) + 1 by omega, ho_step f L b i (by omega)]
    congr 1
    omega
set_option maxRecDepth 100000 in
set_option maxHeartbeats 4000000 in
theorem iRejoin_on (f b : Int) (a : Option Addr) (L : List (List Int)) (cap : Nat) (w : World) (hs : SrcSS w a L) (ht : Tab w) (h : okJoin f L b) (hl : ∀ d, (L.getD d []).length ≤ 1048576) :
    Calls Tryd.prog 11 #[.int .i64 f, .slice a L.length cap, .int .i64 b] w (OwnLB w (joL f L b) true) := by
  obtain ⟨⟨hb0, hb5⟩, hc, hv⟩ := h
  have hC32 : L.length ≤ 32 := hc.2
  have hC0 : 0 < L.length := by omega
  have hv0 := (hv 0 hC0).1
  have h08 := hv0.f08
  have hp := P_bd h08.1 h08.2
  have hn0 := hv0.pos.1
  have hn5 := hv0.pos.2
  have HIB : Hid (∀ W, Calls Tryd.prog 29 #[.int .i64 b] W fun e w' => e = .returned (.bool true) ∧ W = w') := Lib.hid fun W => by have := isBase_c b W; rwa [decide_eq_true ⟨hb0, hb5⟩] at this
  have hPB : partsB f L = true := partsB_yes ⟨hc, fun d hd => ⟨((hv d hd).2).symm, hv0, (hv d hd).1⟩⟩
  have HAP : Hid (∀ W, Below w.heap.size w W → Calls Tryd.prog 34 #[.int .i64 f, .slice a L.length cap] W fun e w' => e = .returned (.bool true) ∧ W = w') := Lib.hid fun W hW => by
    have := areParts_c f a L cap W (by omega) hl (hs.keep hW) (ht.below hW)
    rw [hPB] at this
    exact this
  obtain ⟨bb, off, A0, K0, rfl, hlt, hrow⟩ := hs.fn hC0
  obtain ⟨mi, hmi⟩ : ∃ mi : Nat → Nat, ∀ d, mi d < L.length ∧ (d < L.length → mi d = d) := ⟨fun d => min d (L.length - 1), fun d => ⟨Nat.lt_of_le_of_lt (Nat.min_le_right _ _) (by omega), fun h => Nat.min_eq_left (by omega)⟩⟩
  have HRW : Hid (∀ d, Src w (A0 (mi d)) (L.getD 0 []).length (lf (L.getD (mi d) []))) := Lib.hid fun d => by
    have := (hrow (mi d) (hmi d).1).2
    rwa [(hv (mi d) (hmi d).1).2] at this
  have HCV : Hid (∀ d, d < L.length → w.cell? ⟨bb, off + d, none⟩ = some (.slice (A0 (mi d)) (L.getD 0 []).length (K0 (mi d)))) := Lib.hid fun d hd => by
    have := (hrow d hd).1
    rw [(hv d hd).2] at this
    rw [(hmi d).2 hd]
    exact this
  have c0 : w.cell? ⟨bb, off, none⟩ = some (.slice (A0 (mi 0)) (L.getD 0 []).length (K0 (mi 0))) := by have := HCV.out 0 hC0; rwa [Nat.add_zero] at this
  have HMX : Hid (∀ (W : World) (x g : Nat) (pre : List Nat), Below w.heap.size w W → Own W g (L.getD 0 []).length (joP f b (fun d => L.getD (mi d) []) pre) → Calls Tryd.prog 36 #[.int .i64 f, .slice (A0 (mi x)) (L.getD 0 []).length (K0 (mi x)), .slice (some ⟨g, 0, none⟩) (L.getD 0 []).length (L.getD 0 []).length, .int .i64 (RS b (P f))] W fun e w' => ∃ g', e = .returned (.slice (some ⟨g', 0, none⟩) (L.getD 0 []).length (L.getD 0 []).length) ∧ W.heap.size ≤ g' ∧ Own w' g' (L.getD 0 []).length (joP f b (fun d => L.getD (mi d) []) (pre ++ [x])) ∧ Below W.heap.size W w') := Lib.hid fun W x g pre hW ho => by
    have r0 := RS_bd (x := b) (show 0 < P f by omega)
    refine (mixed_c f (RS b (P f)) (A0 (mi x)) (some ⟨g, 0, none⟩) (L.getD 0 []).length (K0 (mi x)) (L.getD 0 []).length (lf (L.getD (mi x) [])) (joP f b (fun d => L.getD (mi d) []) pre) W (ht.below hW) h08.1 h08.2 r0.1 r0.2 (by omega) (by omega) (fun i => (hv (mi x) (hmi x).1).1.lt i) (fun i => joP_bd (by omega) _ _ _ i) ((HRW.out x).keep hW) ho.src).mono ?_
    rintro e w' ⟨g', rfl, hg, ho', hb'⟩
    rw [elL_len] at ho' ⊢
    refine ⟨g', rfl, hg, own_congr ho' rfl fun i hi => ?_, hb'⟩
    rw [lf_elL, if_pos hi, joP_add]
    rfl
  have HRD : Hid (∀ (W : World), Tab W → Calls Tryd.prog 37 #[.int .i64 f, .int .i64 b] W fun e w' => e = .returned (.int .i64 (RS b (P f))) ∧ W = w') := Lib.hid fun W hW => reduce_c f b W hW h08.1 h08.2
  have HF : Hid (∀ W g, Own W g (L.getD 0 []).length (joP f b (fun d => L.getD (mi d) []) (rbk L.length L.length)) → w.heap.size ≤ g → Below w.heap.size w W → OwnLB w (joL f L b) true (.returned (.tuple #[.slice (some ⟨g, 0, none⟩) (L.getD 0 []).length (L.getD 0 []).length, .bool true])) W) := Lib.hid fun W g ho hg hb => by
    have hlen : (joL f L b).length = (L.getD 0 []).length := tab_len _ _
    refine ⟨some ⟨g, 0, none⟩, (L.getD 0 []).length, by rw [hlen], OwnA.of ho hlen.symm hg fun i hi => ?_, hb⟩
    unfold joL
    rw [lf_tab, if_pos hi, joP_rbk f b L _ (fun d hd => by rw [(hmi d).2 hd]) i _ (Nat.le_refl _), Nat.sub_self]
    exact ho_start f L b i
  have HZ : Hid (∀ i, joP f b (fun d => L.getD (mi d) []) [] i = 0) := Lib.hid fun i => rfl
  generalize joP f b (fun d => L.getD (mi d) []) = F at *
  generalize joL f L b = OUT at *
  obtain ⟨A, hA⟩ : ∃ A : Nat → Option Addr, ∀ d, A0 (mi d) = A d := ⟨_, fun _ => rfl⟩
  obtain ⟨K, hK⟩ : ∃ K : Nat → Nat, ∀ d, K0 (mi d) = K d := ⟨_, fun _ => rfl⟩
  simp only [hA, hK] at HRW HCV HMX c0
  have hmk := run_make_row' (P := Tryd.prog) 24 3 (.int .i64 0) 8 Tryd.underlying24 info3 rfl .i64 .i64 (L.getD 0 []).length (by omega) (by omega)
  clear HRW
  generalize (L.getD 0 []).length = n at *
  generalize L.length = C at *
  have hC1i : (0 : Int) < (C : Int) := by omega
  have hw0 : 0 < w.heap.size := by omega
  clear hv hv0 hrow hl hs hPB hmi hA hK
  refine (callsIn_wide (n := 6)).1 ?_
  refine callsIn_of_wp_marks Tryd.func11 rfl trivial ?_ rfl
  simp only [Tryd.ntmps11, List.size_toArray, List.length_cons, List.length_nil, Nat.reduceAdd, Nat.reduceSub, Array.replicate_succ, Array.replicate_zero, List.push_toArray, List.append_toArray, List.nil_append, List.cons_append]
  refine wpIn_wide.2 ?_
  go_wp2_with fail
  refine (HIB.out _).mono ?_
  rintro e w' ⟨rfl, rfl⟩
  go_wp2_with fail
  refine (HAP.out _ ((Below.refl _ _).alloc (Nat.le_refl _) _)).mono ?_
  rintro e w' ⟨rfl, rfl⟩
  clear HIB HAP
  go_wp2_with fail
  refine (backward_c _ _ ⟨_, _, _, rfl⟩).mono ?_
  rintro e w' ⟨rfl, rfl⟩
  go_wp2
  obtain ⟨WL, hWL⟩ : ∃ WL, ((((w.alloc (.cells #[.int .i64 b] 3)).alloc (.cells #[.int .i64 f] 49)).alloc (.cells (madeCells #[.int .i64 0] n) 3)).alloc (.cells #[.slice (some ⟨w.heap.size + 1 + 1, 0, none⟩) n n] 24)).alloc (.cells #[.slice (some ⟨bb, off, none⟩) C cap] 27) = WL := ⟨_, rfl⟩
  have zL : WL.heap.size = w.heap.size + 5 := by rw [← hWL]; simp
  have xb : Boxed WL w.heap.size 3 (.int .i64 b) := by rw [← hWL]; exact ((((Boxed.new w _ _).alloc _).alloc _).alloc _).alloc _
  have xf : Boxed WL (w.heap.size + 1) 49 (.int .i64 f) := by
    have := (((Boxed.new (w.alloc (.cells #[.int .i64 b] 3)) 49 (.int .i64 f)).alloc (.cells (madeCells #[.int .i64 0] n) 3)).alloc (.cells #[.slice (some ⟨w.heap.size + 1 + 1, 0, none⟩) n n] 24)).alloc (.cells #[.slice (some ⟨bb, off, none⟩) C cap] 27)
    rw [World.size_alloc] at this
    rw [← hWL]; exact this
  have xo : Own WL (w.heap.size + 1 + 1) n (F []) := by
    have h1 := World.rowIs_made ((w.alloc (.cells #[.int .i64 b] 3)).alloc (.cells #[.int .i64 f] 49)) (.int .i64 0) n 3
    rw [World.size_alloc, World.size_alloc] at h1
    have h2 := World.rowIs.of_block h1 (Below.heap_alloc _ (.cells #[.slice (some ⟨w.heap.size + 1 + 1, 0, none⟩) n n] 24) _ h1.lt)
    have h3 := World.rowIs.of_block h2 (Below.heap_alloc _ (.cells #[.slice (some ⟨bb, off, none⟩) C cap] 27) _ h2.lt)
    rw [hWL] at h3
    exact World.rowIs.congr h3 fun i _ => by rw [HZ.out i]
  have xs : Boxed WL (w.heap.size + 1 + 1 + 1) 24 (.slice (some ⟨w.heap.size + 1 + 1, 0, none⟩) n n) := by
    have := (Boxed.new (((w.alloc (.cells #[.int .i64 b] 3)).alloc (.cells #[.int .i64 f] 49)).alloc (.cells (madeCells #[.int .i64 0] n) 3)) 24 (.slice (some ⟨w.heap.size + 1 + 1, 0, none⟩) n n)).alloc (.cells #[.slice (some ⟨bb, off, none⟩) C cap] 27)
    rw [World.size_alloc, World.size_alloc, World.size_alloc] at this
    rw [← hWL]; exact this
  have xB : Boxed WL (w.heap.size + 1 + 1 + 1 + 1) 27 (.slice (some ⟨bb, off, none⟩) C cap) := by
    have := Boxed.new ((((w.alloc (.cells #[.int .i64 b] 3)).alloc (.cells #[.int .i64 f] 49)).alloc (.cells (madeCells #[.int .i64 0] n) 3)).alloc (.cells #[.slice (some ⟨w.heap.size + 1 + 1, 0, none⟩) n n] 24)) 27 (.slice (some ⟨bb, off, none⟩) C cap)
    rw [World.size_alloc, World.size_alloc, World.size_alloc, World.size_alloc] at this
    rw [← hWL]; exact this
  have bL : Below w.heap.size w WL := by rw [← hWL]; exact (((((Below.refl _ _).alloc (Nat.le_refl _) _).alloc (by simp) _).alloc (by simp; omega) _).alloc (by simp; omega) _).alloc (by simp; omega) _
  rw [hWL]
  clear hWL hmk
  have t0 : Tab WL := ht.below bL
  refine (wpIn_wide (n := 6)).1 ?_
  refine wpIn_rangeFunc_ownG (F := Fence.wide) (n := 6) rfl (by omega) (gf := 57) (lb := #[.pointer (some ⟨w.heap.size + 1 + 1 + 1 + 1, 0, none⟩)]) rfl trivial (enters_of Tryd.func57 (by kernel_rfl) rfl)
    (back_stops 5 (by omega) (w.heap.size + 1 + 1 + 1 + 1) w.heap.size bb off C cap (fun d => .slice (A d) n (K d)) (by omega) hlt WL (by omega) (by omega) xB.cell (fun d hd => (bL.cell (p := ⟨bb, off + d, none⟩) hlt).trans (HCV.out d hd)))
    (fun h k => ⟨h.1.trans k.1, k.2.1.trans h.2.1, k.2.2.trans h.2.2⟩) (fun W l o o' hl ho hc hw => ⟨belowK_b (w := w) (Nat.le_refl _) W l o o' (by omega) ho hc hw, World.putObj_heap_other (by omega), World.putObj_heap_other (by omega)⟩) (Below.refl _ _) (fun _ => rfl)
    (Joining w.heap.size w.heap.size (w.heap.size + 1) (w.heap.size + 1 + 1 + 1) n f b F w)
    (fun _ _ _ => False)
    (joining_from (Nat.le_refl _) (by omega))
    (fun _ _ _ _ _ hs _ _ => hs)
    ⟨⟨w.heap.size + 1 + 1, by omega, by omega, by omega, by omega, by omega, xs, xo⟩, xf, xb, bL, by omega⟩
    (fun x => { tmps := #[.int .i64 f, .slice (some ⟨bb, off, none⟩) C cap, .int .i64 b, undef, undef, .pointer (some ⟨w.heap.size, 0, none⟩), .slice none 0 0, .bool false, .pointer (some ⟨w.heap.size + 1, 0, none⟩), .pointer (some ⟨w.heap.size + 1 + 1 + 1, 0, none⟩), undef, .slice (A x) n (K x), .int .i64 b, .bool true, .bool false, .bool false, .int .i64 f, .slice (some ⟨bb, off, none⟩) C cap, .bool true, .bool false, .bool false, .int .i64 f, .slice (some ⟨bb, off, none⟩) C cap, .pointer (some ⟨bb, off, none⟩), .slice (A 0) n (K 0), .int .i64 n, .slice (some ⟨w.heap.size + 1 + 1, 0, none⟩) n n, .slice (some ⟨bb, off, none⟩) C cap, .func (.func 57) #[] #[.pointer (some ⟨w.heap.size + 1 + 1 + 1 + 1, 0, none⟩)], .int .i64 x, .slice (A x) n (K x), undef, undef, undef, undef, undef, undef, undef, undef], defers := [] }) ?assign ?body ?done ?stop
  case assign =>
    intro l x W KK hK
    gi_wp2
    exact hK
  case body =>
    rintro l pre x W ⟨⟨g, g1, g2, g3, g4, g5, hsum, hown⟩, hfb, hbb, hB, hz⟩ hlt2
    have cs := hsum.cell
    have cf := hfb.cell
    have cb := hbb.cell
    have hBd : Below w.heap.size w W.drew := ⟨hB.os, hB.tape, hB.output, hB.size, hB.block⟩
    have HTd : Hid (Tab W.drew) := Lib.hid (ht.below hBd)
    have HMd := Lib.hid (HMX.out W.drew x g pre hBd hown)
    have csd : W.drew.cell? ⟨w.heap.size + 1 + 1 + 1, 0, none⟩ = some (.slice (some ⟨g, 0, none⟩) n n) := cs
    have cfd : W.drew.cell? ⟨w.heap.size + 1, 0, none⟩ = some (.int .i64 f) := cf
    have cbd : W.drew.cell? ⟨w.heap.size, 0, none⟩ = some (.int .i64 b) := cb
    have HS := Lib.hid hsum
    have HJ : Hid (∀ w4 g', Below W.drew.heap.size W.drew w4 → W.drew.heap.size ≤ g' → Own w4 g' n (F (pre ++ [x])) → KeepsFrom WL.heap.size W (w4.setCell ⟨w.heap.size + 1 + 1 + 1, 0, none⟩ (.slice (some ⟨g', 0, none⟩) n n)) ∧ KeepsBoxes w.heap.size (w.heap.size + 1 + 1 + 1 + 1) (w.heap.size + 1 + 1 + 1 + 1) W (w4.setCell ⟨w.heap.size + 1 + 1 + 1, 0, none⟩ (.slice (some ⟨g', 0, none⟩) n n)) ∧ Joining w.heap.size w.heap.size (w.heap.size + 1) (w.heap.size + 1 + 1 + 1) n f b F w (pre ++ [x]) (w4.setCell ⟨w.heap.size + 1 + 1 + 1, 0, none⟩ (.slice (some ⟨g', 0, none⟩) n n))) := Lib.hid fun w4 g' hb4 hg4 ho4 =>
      joining_step rfl ⟨⟨g, g1, g2, g3, g4, g5, hsum, hown⟩, hfb, hbb, hB, hz⟩ (by omega) (by omega) (by omega) (by omega) (by omega) (by omega) hb4 hg4 ho4
    clear hB hown
    gi_wp2
    gi_region_with ((first | (refine ⟨trivial, ?_⟩; gi_at_call 37; refine (CallsIn.inRound l (callsIn_wide.2 (HRD.out _ HTd.out))).mono ?_; rintro e w' ⟨rfl, rfl⟩) | (refine ⟨trivial, ?_⟩; gi_at_call 36; refine (CallsIn.inRound l (callsIn_wide.2 HMd.out)).mono ?_; rintro e w4 ⟨g', rfl, hg4, ho4, hb4⟩; have hs4 : Boxed w4 (w.heap.size + 1 + 1 + 1) 24 (.slice (some ⟨g, 0, none⟩) n n) := (hb4.block _ HS.out.lt).trans HS.out; have cs4 := hs4.cell; have fs4 := hs4.frozen)))
    all_goals gi_wp2
    all_goals exact HJ.out w4 g' hb4 hg4 ho4
  case done =>
    rintro D ys W hD rfl ⟨⟨g, g1, g2, g3, g4, g5, hsum, hown⟩, hfb, hbb, hB, hz⟩ hK
    have cs := hsum.cell
    have hbD : Below w.heap.size W (W.putObj D (.deferred none)) := belowK_b (w := w) (Nat.le_refl _) W D _ _ (by omega) hK rfl rfl
    have HFin := Lib.hid (fun W' h1 h2 => HF.out W' g h1 g1 h2)
    go_wp2
    refine ⟨by simp, .inl ⟨_, _, rfl, run_takeDeferred hK, ?_⟩⟩
    have hg : g ≠ D := fun e => by
      obtain ⟨cur, hh, _⟩ := hown
      rw [e] at hh
      rw [hh] at hK
      cases hK
    have hR := Lib.hid (HFin.out _ (World.rowIs.of_block hown (World.putObj_heap_other hg)) (hB.trans hbD))
    refine ⟨.tuple #[.slice (some ⟨g, 0, none⟩) n n, .bool true], by simp [results, Tryd.results11, go_sem], ?_⟩
    exact hR.out
  case stop =>
    rintro D c pre W _ _ h _
    exact h.elim
end Go.Proofs.YtfocdlkophdfoaaDoor
namespace Go.Proofs.YtfocdlkophdfoaaDoor
open Go.RowKit
theorem results_tmpZ {fn : Func} {t u v x : Tmp} (h : fn.results = #[.tmp t, .tmp u, .tmp v, .tmp x]) (tmps : Array Value) (P : Program) (w : World) :
    (results fn tmps).run P w = .ok (.tuple #[tmps.getD t undef, tmps.getD u undef, tmps.getD v undef, tmps.getD x undef]) w := by
  simp [results, h]
end Go.Proofs.YtfocdlkophdfoaaDoor
namespace Go.Proofs.YtfocdlkophdfoaaDoor
open Go.RowKit
theorem shl_cast {k : Nat} (h : k ≤ 9) : wrap64 (2 ^ k) = ((2 ^ k : Nat) : Int) ∧ 0 < 2 ^ k ∧ 2 ^ k ≤ 512 := by
  have : 2 ^ k ≤ 2 ^ 9 := Nat.pow_le_pow_right (by omega) h
  refine ⟨?_, Nat.pow_pos (by omega), by omega⟩
  rw [shl_nat (by omega)]
  unfold two
  rw [Int.toNat_natCast, Int.natCast_pow]
  rfl
/-- After one number of the row has been written anew. -/
theorem zpol_put {g : Nat} {w w1 w2 : World} {N n k g2 cap : Nat} {F : Nat → Int} {y : Int} (hn : n ≤ N) (hne : g2 ≠ g) (h2 : w.heap.size ≤ g2) (ho : OwnV w1 g2 n cap F) (hg : w.grownBy w1 (some g)) (g3 : w1.grownBy w2 (some g)) (hc : Cur g w2) (hgl : g < w.heap.size) :
    ZPol g w N (.returned (.slice (some ⟨g2, 0, none⟩) n cap)) (w2.setCell ⟨g2, k, none⟩ (.int .i64 y)) := by
  have ho2 := ho.grown g3 hne
  have ho3 := OwnV.set (s := k) (x := y) ho2
  have hcap : n ≤ cap := by obtain ⟨_, _, h, _⟩ := ho; exact h
  have hg3 : w.grownBy w2 (some g) := hg.trans g3
  have hset : w2.grownBy (w2.setCell ⟨g2, k, none⟩ (.int .i64 y)) (some g2) := grown_set (World.grownBy.refl _ _) _ _
  refine ⟨tab n (upd F k y), some ⟨g2, 0, none⟩, cap, by rw [tab_len], by rw [tab_len]; exact hn, by rw [tab_len]; exact hcap, ?_, ?_, ?_⟩
  · rw [tab_len]
    refine .inr ⟨g2, 0, rfl, hne, ho3.lt, fun j hj => ?_⟩
    rw [Nat.zero_add, ho3.cell hj, lf_tab, if_pos hj]
  · exact hc.other hset (fun r hr => by injection hr with hr; omega)
  · exact grown_new hg3 hset (fun r hr => by injection hr with hr; omega)
/-- The row that was drawn, in a world whose cursor has gone on. -/
def ZKeep (g : Nat) (w w1 : World) (g2 n cap : Nat) (F : Nat → Int) : Prop := w1.ownsRow w.heap.size 3 1 (.slice (some ⟨g2, 0, none⟩) n cap) n (xsF F n) ∧ OwnV w1 g2 n cap F ∧ g2 ≠ g ∧ w.heap.size ≤ g2 ∧ Cur g w1 ∧ w.grownBy w1 (some g)
theorem ZKeep.of {g : Nat} {w w1 : World} {n : Nat} {v : Value} (hB : g < w.heap.size) (hn : n ≠ 0) (h : ZAt g w w1 v n) : ∃ g2 cap F, v = .slice (some ⟨g2, 0, none⟩) n cap ∧ ZKeep g w w1 g2 n cap F := by
  obtain ⟨⟨F, ho⟩, hc, hg, hs⟩ := h
  obtain ⟨g2, cap, rfl, hg2, hov⟩ := OwnV.of_owns ho hn
  exact ⟨g2, cap, F, rfl, ho, hov, by omega, hg2, hc, hg⟩
theorem ZKeep.grown {g : Nat} {w w1 w2 : World} {g2 n cap : Nat} {F : Nat → Int} (h : ZKeep g w w1 g2 n cap F) (hg : w1.grownBy w2 (some g)) (hc : Cur g w2) : ZKeep g w w2 g2 n cap F := by
  obtain ⟨ho, hov, hne, h2, _, hgw⟩ := h
  exact ⟨ho.kept hg (.inr (fun e => by injection e with e; exact hne e)), hov.grown hg hne, hne, h2, hc, hgw.trans hg⟩
theorem ZKeep.pol {g : Nat} {w w1 : World} {g2 n cap N : Nat} {F : Nat → Int} (h : ZKeep g w w1 g2 n cap F) (hn : n ≤ N) : ZPol g w N (.returned (.slice (some ⟨g2, 0, none⟩) n cap)) w1 := by
  obtain ⟨ho, hov, hne, h2, hc, hgw⟩ := h
  have hcap : n ≤ cap := by obtain ⟨_, _, h, _⟩ := hov; exact h
  refine ⟨tab n F, some ⟨g2, 0, none⟩, cap, by rw [tab_len], by rw [tab_len]; exact hn, by rw [tab_len]; exact hcap, ?_, hc, hgw⟩
  rw [tab_len]
  refine .inr ⟨g2, 0, rfl, hne, hov.lt, fun j hj => ?_⟩
  rw [Nat.zero_add, hov.cell hj, lf_tab, if_pos hj]
theorem zpol_more {g : Nat} {w w1 w2 : World} {g2 n cap N : Nat} {F : Nat → Int} {v' : Value} {x : Int} {o : Obj} (hB : g < w.heap.size) (h : ZKeep g w w1 g2 n cap F) (hn : n + 1 ≤ N) (hown' : w2.ownsRow w.heap.size 3 1 v' (n + 1) (xsF F n ++ [.int .i64 x])) (hgrow : (w1.alloc o).grownBy w2 (Value.slice (some ⟨g2, 0, none⟩) n cap).ownBlock) : ZPol g w N (.returned v') w2 := by
  have hz := zdraw_step hB h.2.2.2.2.2 h.2.2.2.2.1 h.1 hown' hgrow
  obtain ⟨l, a, cap2, e, h1, h2, h3, h4, h5⟩ := (ZVal.of hB hz).pol
  exact ⟨l, a, cap2, e, by omega, h2, h3, h4, h5⟩
theorem lower_own {w : World} {B B' : Nat} {v : Value} {n : Nat} {xs : List Value} (h : w.ownsRow B 3 1 v n xs) (hB : B' ≤ B) : w.ownsRow B' 3 1 v n xs := by
  obtain ⟨h1, h2⟩ := h
  refine ⟨h1, h2.imp id ?_⟩
  rintro ⟨g, cap, cur, e, hg, hr⟩
  exact ⟨g, cap, cur, e, Nat.le_trans hB hg, hr⟩
set_option maxRecDepth 100000 in
set_option maxHeartbeats 6400000 in
theorem drawVector_c (g : Nat) (f : Int) (a : Option Addr) (len cap : Nat) (w : World) (hc : Cur g w) (_hl : len ≤ 1048576) : Calls Tryd.prog 45 #[.pointer (some ⟨g, 0, none⟩), .int .i64 f, .slice a len cap] w (ZPol g w 513) := by
  have hB : g < w.heap.size := hc.lt
  obtain ⟨i0, hi, hz0, hz1, hz2⟩ := info_parts info3
  have HI := Lib.hid hi
  have HZ0 := Lib.hid hz0
  have HZ1 := Lib.hid hz1
  have HZ2 := Lib.hid hz2
  clear hi hz0 hz1 hz2
  have hT := T_le f
  go_enter Tryd.func45, Tryd.ntmps45
  go_upto_block 0 with fail
  go_cut [7] from 10 (fun i wc => ∃ k : Nat, i = .int .i64 k ∧ k ≤ 8 ∧ w = wc)
  case first =>
    go_wp2_with fail
    go_loopw [7] (fun i wr => ∃ k : Nat, i = .int .i64 k ∧ k ≤ 8 ∧ w = wr) (fun i _ => 8 - (intOf i).toNat)
    case atStart => exact ⟨0, rfl, by omega, rfl⟩
    case round =>
      obtain ⟨k, rfl, hk, rfl⟩ := hrel
      by_cases h8 : k < 8
      · have hkk : (k : Int) < 8 := by omega
        have hd8 : decide ((k : Int) < 8) = true := decide_eq_true (by omega)
        by_cases hq : wrap64 (4 * 2 ^ k) < (len : Int)
        · have hdq : decide (wrap64 (4 * 2 ^ k) < (len : Int)) = true := decide_eq_true hq
          go_wp2
          go_roundw
          case rel => exact ⟨k + 1, by go_num, by omega, by trivial⟩
          case measure => simp [intOf]; omega
        · have hdq : decide (wrap64 (4 * 2 ^ k) < (len : Int)) = false := decide_eq_false hq
          go_wp2
          go_meet
          case rel => exact ⟨k, rfl, by omega, rfl⟩
      · obtain rfl : k = 8 := by omega
        go_wp2
        go_meet
        case rel => exact ⟨8, rfl, by omega, rfl⟩
  case rest =>
    obtain ⟨k0, rfl, hk0, rfl⟩ := hcut
    go_wp2_with fail
    refine (below_c g ((k0 : Int) + 2) w hc (by omega) (by omega)).mono ?_
    rintro e w2 ⟨x, ⟨x0, x1⟩, rfl, g2, c2⟩
    obtain ⟨x, rfl⟩ := Int.eq_ofNat_of_zero_le x0
    have hx9 : x ≤ 9 := by omega
    clear x0 x1 hk0
    go_wp2_with fail
    refine (sTwoPower f w2).mono ?_
    rintro e w' ⟨rfl, rfl⟩
    go_upto_region 6 with fail
    go_cut [34] from 28 (fun s wd => ∃ b6 : Bool, s = .bool b6 ∧ (b6 = true → 0 ≤ T f ∧ T f < x) ∧ w2 = wd)
    case first =>
      by_cases h1 : 0 ≤ T f
      · have d1 : decide (0 ≤ T f) = true := decide_eq_true h1
        by_cases h2 : T f < x
        · have d2 : decide (T f < (x : Int)) = true := decide_eq_true h2
          go_wp2
          go_meet
          case rel => exact ⟨true, rfl, fun _ => ⟨h1, h2⟩, rfl⟩
        · have d2 : decide (T f < (x : Int)) = false := decide_eq_false h2
          go_wp2
          go_meet
          case rel => exact ⟨false, rfl, (fun h => by cases h), rfl⟩
      · have d1 : decide (0 ≤ T f) = false := decide_eq_false h1
        go_wp2
        go_meet
        case rel => exact ⟨false, rfl, (fun h => by cases h), rfl⟩
    case rest =>
      obtain ⟨b6, rfl, hb6, rfl⟩ := hcut
      go_upto_if 34 with fail
      go_cut [7] from 28 (fun s wd => ∃ k : Nat, s = .int .i64 k ∧ k ≤ 9 ∧ w2 = wd)
      case first =>
        cases b6
        · go_wp2
          go_meet
          case rel => exact ⟨x, rfl, hx9, rfl⟩
        · obtain ⟨h1, h2⟩ := hb6 rfl
          go_wp2
          go_meet
          case rel => exact ⟨(T f).toNat, vint (by omega), by omega, rfl⟩
      case rest =>
        obtain ⟨k1, rfl, hk1, rfl⟩ := hcut
        clear hb6 hx9
        go_wp2_with fail
        refine (once_c g 25 w2 c2 (by omega) (by omega)).mono ?_
        rintro e w3 ⟨b3, rfl, g3, c3⟩
        have g3w := g2.trans g3
        clear g2 g3 c2
        go_upto_if 37 with fail
        go_cut [7] from 28 (fun s w5 => ∃ k : Nat, s = .int .i64 k ∧ k ≤ 9 ∧ Cur g w5 ∧ w.grownBy w5 (some g))
        case first =>
          cases b3
          · go_wp2
            go_meet
            case rel => exact ⟨k1, rfl, hk1, c3, g3w⟩
          · go_wp2_with fail
            refine (pick_c (fun n => 0 ≤ n ∧ n ≤ 9) g w3.heap.size 3 3 _ (c3.alloc _) (by omega) (by omega) (ints_alloc _ c3.lt #[.int .i64 0, .int .i64 5, .int .i64 9] 3 (fun j hj => by
              have h3 : j = 0 ∨ j = 1 ∨ j = 2 := by have : j < 3 := hj; omega
              rcases h3 with rfl | rfl | rfl <;> exact ⟨_, rfl, by omega⟩))).mono ?_
            rintro e w4 ⟨z, ⟨z0, z9⟩, rfl, g4, c4⟩
            obtain ⟨z, rfl⟩ := Int.eq_ofNat_of_zero_le z0
            have g4w := g3w.trans ((World.grownBy_alloc w3 _ (some g)).trans g4)
            go_wp2
            go_meet
            case rel => exact ⟨z, rfl, by omega, c4, g4w⟩
        case rest =>
          obtain ⟨k, rfl, hk, c5, g5⟩ := hcut
          obtain ⟨w5, rfl⟩ : ∃ w5, w5 = wc := ⟨wc, rfl⟩
          obtain ⟨e2, p0, p5⟩ := shl_cast (k := k) (by omega)
          have HE2 := Lib.hid e2
          clear e2
          go_wp2_with fail
          rw [HE2.out]
          generalize 2 ^ k = n at *
          refine (drawList_c g f n w5 c5 (by omega)).mono ?_
          rintro e w6 ⟨v6, rfl, hz6⟩
          obtain ⟨g2, cap2, F, rfl, hk6⟩ := ZKeep.of c5.lt (by omega) hz6
          have HK6 : Hid (ZKeep g w w6 g2 n cap2 F) := Lib.hid ⟨by exact lower_own hk6.1 g5.size, hk6.2.1, hk6.2.2.1, Nat.le_trans g5.size hk6.2.2.2.1, hk6.2.2.2.2.1, g5.trans hk6.2.2.2.2.2⟩
          have c6 := hk6.2.2.2.2.1
          clear hz6 hk6 c5 g5 HE2
          go_wp2_with fail
          refine (once_c g 12 w6 c6 (by omega) (by omega)).mono ?_
          rintro e w7 ⟨b7, rfl, g7, c7⟩
          have HK7 := Lib.hid (HK6.out.grown g7 c7)
          clear HK6 g7 c6
          cases b7
          · go_wp2
            go_ret
            exact HK7.out.pol (by omega)
          · go_wp2_with fail
            refine (below_c g 3 w7 c7 (by omega) (by omega)).mono ?_
            rintro e w8 ⟨u, ⟨u0, u1⟩, rfl, g8, c8⟩
            have HK8 := Lib.hid (HK7.out.grown g8 c8)
            clear HK7 g8 c7
            by_cases hu0 : u = 0
            · subst hu0
              have hown8 := HK8.out.1
              have hs8 : w.heap.size ≤ w8.heap.size := HK8.out.2.2.2.2.2.size
              go_wp2_with (at_builtin; refine wpList_append_own _ rfl _ _ 24 rfl w.heap.size 3 i0 (.int .i64 0) 1 8 Tryd.underlying24 HI.out HZ0.out HZ1.out HZ2.out rfl (by decide) _ _ _ rfl (hown8.alloc _) ⟨w8.heap.size, 0, none⟩ 1 1 [.int .i64 (0)] rfl rfl ?c1 ?c2 ?c3 ?c4 ?c5 ?_)
              case c1 => exact cell_one_new _ _ _
              case c2 => intro u hu; simp at hu; subst hu; rfl
              case c3 => unfold maxLen; omega
              case c4 => omega
              case c5 => simp; omega
              intro v' w9 hown' hgrow _
              have HF := Lib.hid (zpol_more (N := 513) hB HK8.out (by omega) hown' hgrow)
              clear hown' hgrow hown8 HK8
              go_wp2
              go_ret
              exact HF.out
            · have hb0 : (u == 0) = false := by simpa using hu0
              by_cases hu1 : u = 1
              · subst hu1
                go_wp2_with fail
                refine (below_c g n w8 c8 (by omega) (by omega)).mono ?_
                rintro e w9 ⟨t, ⟨t0, t1⟩, rfl, g9, c9⟩
                obtain ⟨t, rfl⟩ := Int.eq_ofNat_of_zero_le t0
                have HK9 := Lib.hid (HK8.out.grown g9 c9)
                clear HK8 g9 c8
                go_wp2_with fail
                refine (sModulus f w9).mono ?_
                rintro e w' ⟨rfl, rfl⟩
                go_wp2_with fail
                refine (pick_c (fun _ => True) g w9.heap.size 2 2 _ (c9.alloc _) (by omega) (by omega) (ints_alloc (fun _ => True) c9.lt #[.int .i64 (-1), .int .i64 (P f)] 3 (fun j hj => by
                  have h3 : j = 0 ∨ j = 1 := by have : j < 2 := hj; omega
                  rcases h3 with rfl | rfl <;> exact ⟨_, rfl, trivial⟩))).mono ?_
                rintro e w10 ⟨y, _, rfl, g10, c10⟩
                have g10' := (World.grownBy_alloc w9 _ (some g)).trans g10
                have HO10 := Lib.hid (HK9.out.2.1.grown g10' HK9.out.2.2.1)
                have cc := HO10.out.cell (show t < n by omega)
                have fr := HO10.out.frozen t
                have tn : (t : Int) < (n : Int) := t1
                have HF : Hid (ZPol g w 513 (.returned (.slice (some ⟨g2, 0, none⟩) n cap2)) (w10.setCell ⟨g2, t, none⟩ (.int .i64 y))) := Lib.hid (zpol_put (by omega) HK9.out.2.2.1 HK9.out.2.2.2.1 HK9.out.2.1 HK9.out.2.2.2.2.2 g10' c10 hB)
                clear HK9 g10' g10
                go_wp2
                go_ret
                exact HF.out
              · have hb1 : (u == 1) = false := by simpa using hu1
                obtain rfl : u = 2 := by omega
                have HF : Hid (ZPol g w 513 (.returned (.slice none 0 0)) w8) := Lib.hid ⟨[], none, 0, rfl, by simp, by simp, .inl rfl, c8, HK8.out.2.2.2.2.2⟩
                clear HK8
                go_wp2
                go_ret
                exact HF.out
end Go.Proofs.YtfocdlkophdfoaaDoor
namespace Go.Proofs.YtfocdlkophdfoaaDoor
open Go.RowKit
/-- A cursor, a field and a vector that is read apart from the cursor. -/
def DrawO (w : World) (e : Ending) (w' : World) : Prop := ∃ (f : Int) (a : Option Addr) (l : List Int) (cap : Nat),
  e = .returned (.tuple #[.pointer (some ⟨w.heap.size, 0, none⟩), .int .i64 f, .slice a l.length cap]) ∧ l.length ≤ 513 ∧ SrcO w.heap.size w' a l.length (lf l) ∧ Cur w.heap.size w' ∧ Below w.heap.size w w'
theorem SrcO.cut {g : Nat} {w : World} {a : Option Addr} {l : List Int} {m : Nat} (h : SrcO g w a l.length (lf l)) (hm : m ≤ l.length) : (l.take m).length = m ∧ SrcO g w a (l.take m).length (lf (l.take m)) := by
  have hl : (l.take m).length = m := by rw [List.length_take]; omega
  refine ⟨hl, ?_⟩
  rw [hl]
  have hF : ∀ j, j < m → lf (l.take m) j = lf l j := fun j hj => by
    unfold lf
    rw [List.getD_eq_getElem?_getD, List.getD_eq_getElem?_getD, List.getElem?_take_of_lt hj]
  rcases h with h | ⟨b, off, rfl, hne, hlt, hc⟩
  · exact .inl (by omega)
  · exact .inr ⟨b, off, rfl, hne, hlt, fun j hj => by rw [hc j (by omega), hF j hj]⟩
set_option maxRecDepth 100000 in
set_option maxHeartbeats 3200000 in
theorem drawOpen_c (a : Option Addr) (len cap : Nat) (w : World) (hl : len ≤ 1048576) (hc : Code w a len) : Calls Tryd.prog 21 #[.slice a len cap] w (DrawO w) := by
  go_enter Tryd.func21, Tryd.ntmps21
  go_wp2_with fail
  refine (new_c a len cap w hc).mono ?_
  rintro e w1 ⟨rfl, b1, c1⟩
  go_wp2_with fail
  refine (field_c w.heap.size w1 c1).mono ?_
  rintro e w2 ⟨f, hf8, rfl, g2, c2⟩
  go_wp2_with fail
  refine (drawVector_c w.heap.size f a len cap w2 c2 hl).mono ?_
  rintro e w3 ⟨l, a3, cap3, rfl, hl3, hcap, s3, c3, g3⟩
  have b3 := below_of_grown b1 (g2.trans g3)
  have HS3 := Lib.hid s3
  clear b1 g2 g3 c1 c2 s3 hc
  have hT := T_le f
  have HTP := Lib.hid (sTwoPower f w3)
  by_cases h0 : 0 < T f
  · have hd : decide (0 < T f) = true := decide_eq_true h0
    have hsh : wrap64 (2 ^ (T f).toNat) = two (T f) := shl_at (by omega) hT
    have hQ0 : 0 < two (T f) := by unfold two; exact Int.pow_pos (by omega)
    generalize two (T f) = Q at *
    generalize T f = t at *
    go_wp2_with fail
    refine HTP.out.mono ?_
    rintro e w' ⟨rfl, rfl⟩
    by_cases hq : ((l.length : Int) == Q) = true
    · go_wp2_with fail
      refine (once_c w.heap.size 4 w3 c3 (by omega) (by omega)).mono ?_
      rintro e w4 ⟨b, rfl, g4, c4⟩
      have HS4 := Lib.hid (HS3.out.grown g4)
      have b4 := below_of_grown b3 g4
      clear HS3 HTP b3 g4 c3
      cases b with
      | true =>
        go_wp2
        go_ret3
        exact ⟨f, a3, l, cap3, rfl, hl3, HS4.out, c4, b4⟩
      | false =>
        have hn1 : 1 ≤ l.length := by
          have : (l.length : Int) = Q := by simpa using hq
          omega
        obtain ⟨b3, o3, rfl⟩ : ∃ b3 o3, a3 = some ⟨b3, o3, none⟩ := by
          rcases HS4.out with h | ⟨b3, o3, h, _⟩
          · omega
          · exact ⟨b3, o3, h⟩
        obtain ⟨n, hn⟩ : ∃ n, n = l.length := ⟨_, rfl⟩
        obtain ⟨m, hm⟩ : ∃ m, m = n / 2 := ⟨_, rfl⟩
        have HC : Hid ((l.take m).length = m ∧ SrcO w.heap.size w4 (some ⟨b3, o3, none⟩) (l.take m).length (lf (l.take m))) := Lib.hid (HS4.out.cut (by omega))
        have HF : Hid (DrawO w (.returned (.tuple #[.pointer (some ⟨w.heap.size, 0, none⟩), .int .i64 f, .slice (some ⟨b3, o3, none⟩) m cap3])) w4) := Lib.hid ⟨f, _, l.take m, cap3, by rw [HC.out.1], by rw [HC.out.1]; omega, HC.out.2, c4, b4⟩
        have td : wrap64 ((n : Int) / 2) = (m : Int) := by rw [IntWalk.wrap64_in _ (by omega)]; omega
        have hc0 : ¬ cap3 = 0 := by omega
        have hmc : (m : Int) ≤ cap3 := by omega
        have hmc2 : m ≤ cap3 := by omega
        rw [← hn] at *
        clear HS4 HC b4 c4 hm
        go_wp2
        go_ret3
        exact HF.out
    · have hq3 : ((l.length : Int) == Q) = false := by simpa using hq
      go_wp2_with fail
      go_wp2
      go_ret3
      exact ⟨f, a3, l, cap3, rfl, hl3, HS3.out, c3, b3⟩
  · have hd : decide (0 < T f) = false := decide_eq_false h0
    generalize T f = t at *
    go_wp2_with fail
    refine HTP.out.mono ?_
    rintro e w' ⟨rfl, rfl⟩
    go_wp2
    go_ret3
    exact ⟨f, a3, l, cap3, rfl, hl3, HS3.out, c3, b3⟩
end Go.Proofs.YtfocdlkophdfoaaDoor
namespace Go.Proofs.YtfocdlkophdfoaaDoor
open Go.RowKit
theorem P_any (f : Int) : 0 ≤ P f ∧ P f ≤ 1004535809 := by
  by_cases h : 0 ≤ f ∧ f ≤ 8
  · have := P_bd h.1 h.2
    omega
  · have := P_off (f := f) (by omega)
    omega
end Go.Proofs.YtfocdlkophdfoaaDoor
namespace Go.Proofs.YtfocdlkophdfoaaDoor
open Go.RowKit
theorem iRejoin_off (f b : Int) (a : Option Addr) (L : List (List Int)) (cap : Nat) (w : World) (hC : L.length ≤ 1048576) (hl : ∀ d, (L.getD d []).length ≤ 1048576) (hs : SrcSS w a L) (ht : Tab w) (h : ¬ okJoin f L b) :
    Calls Tryd.prog 11 #[.int .i64 f, .slice a L.length cap, .int .i64 b] w (OwnLB w [] false) := by
  have HF : Hid (∀ W, Below w.heap.size w W → OwnLB w [] false (.returned (.tuple #[.slice none 0 0, .bool false])) W) := Lib.hid fun W hW => ⟨none, 0, rfl, OwnA.nil rfl, hW⟩
  have HIB := Lib.hid (fun W => isBase_c b W)
  by_cases hb : 2 ≤ b ∧ b ≤ 65536
  rotate_left
  · rw [decide_eq_false hb] at HIB
    clear hl hs ht h hb hC
    go_enter Tryd.func11, Tryd.ntmps11
    go_wp2_with fail
    refine (HIB.out _).mono ?_
    rintro e w' ⟨rfl, rfl⟩
    go_wp2
    go_ret2
    exact HF.out _ ((Below.refl _ _).alloc (Nat.le_refl _) _)
  rw [decide_eq_true hb] at HIB
  have hPB : partsB f L = false := partsB_no fun h2 => h ⟨hb, h2.1, fun d hd => ⟨(h2.2 d hd).2.2, ((h2.2 d hd).1).symm⟩⟩
  have HAP : Hid (∀ W, Below w.heap.size w W → Calls Tryd.prog 34 #[.int .i64 f, .slice a L.length cap] W fun e w' => e = .returned (.bool false) ∧ W = w') := Lib.hid fun W hW => by
    have := areParts_c f a L cap W hC hl (hs.keep hW) (ht.below hW)
    rw [hPB] at this
    exact this
  clear hl hs ht h hb hC hPB
  generalize L.length = C at *
  go_enter Tryd.func11, Tryd.ntmps11
  go_wp2_with fail
  refine (HIB.out _).mono ?_
  rintro e w' ⟨rfl, rfl⟩
  go_wp2_with fail
  refine (HAP.out _ ((Below.refl _ _).alloc (Nat.le_refl _) _)).mono ?_
  rintro e w' ⟨rfl, rfl⟩
  go_wp2
  go_ret2
  exact HF.out _ ((Below.refl _ _).alloc (Nat.le_refl _) _)
theorem iRejoin (f : Int) (a : Option Addr) (L : List (List Int)) (cap : Nat) (b : Int) (w : World) (hC : L.length ≤ 1048576) (hl : ∀ d, (L.getD d []).length ≤ 1048576) (hs : SrcSS w a L) (ht : Tab w) :
    Calls Tryd.prog 11 #[.int .i64 f, .slice a L.length cap, .int .i64 b] w (OwnLB w (mRejoin0 f L b) (mRejoin1 f L b)) := by
  by_cases h : okJoin f L b
  · rw [show mRejoin0 f L b = joL f L b by unfold mRejoin0; rw [if_pos h], show mRejoin1 f L b = true by simp only [mRejoin1, decide_eq_true_eq]; exact h]
    exact iRejoin_on f b a L cap w hs ht h hl
  · rw [show mRejoin0 f L b = [] by unfold mRejoin0; rw [if_neg h], show mRejoin1 f L b = false by simp only [mRejoin1, decide_eq_false_iff_not]; exact h]
    exact iRejoin_off f b a L cap w hC hl hs ht h
/-- A field, a vector, a base and a count. -/
def DrawLII (M : Nat) (w : World) (e : Ending) (w' : World) : Prop := ∃ (f : Int) (a : Option Addr) (l : List Int) (cap : Nat) (b c : Int),
  e = .returned (.tuple #[.int .i64 f, .slice a l.length cap, .int .i64 b, .int .i64 c]) ∧ l.length ≤ M ∧ Src w' a l.length (lf l) ∧ Below w.heap.size w w'
set_option maxRecDepth 100000 in
set_option maxHeartbeats 3200000 in
theorem drawDigitParts_c (a : Option Addr) (len cap : Nat) (w : World) (hl : len ≤ 1048576) (hc : Code w a len) : Calls Tryd.prog 6 #[.slice a len cap] w (DrawLII 1048576 w) := by
  go_enter Tryd.func6, Tryd.ntmps6
  go_wp2_with fail
  refine (drawOpen_c a len cap w hl hc).mono ?_
  rintro e w1 ⟨f, a1, l, cap1, rfl, h1, s1, c1, b1⟩
  have HS1 := Lib.hid s1
  clear s1 hc
  go_wp2_with fail
  refine (below_c w.heap.size 65000 w1 c1 (by omega) (by omega)).mono ?_
  rintro e w4 ⟨x, ⟨x0, x1⟩, rfl, g4, c4⟩
  go_wp2_with fail
  refine (pick_c (fun v => 1 ≤ v ∧ v ≤ 65537) w.heap.size w4.heap.size 9 9 _ (c4.alloc _) (by omega) (by omega) (ints_alloc (fun v => 1 ≤ v ∧ v ≤ 65537) c4.lt #[.int .i64 2, .int .i64 3, .int .i64 10, .int .i64 17, .int .i64 257, .int .i64 65536, .int .i64 (2 + x), .int .i64 1, .int .i64 65537] 3 (fun j hj => by
    have h3 : j = 0 ∨ j = 1 ∨ j = 2 ∨ j = 3 ∨ j = 4 ∨ j = 5 ∨ j = 6 ∨ j = 7 ∨ j = 8 := by have : j < 9 := hj; omega
    rcases h3 with rfl | rfl | rfl | rfl | rfl | rfl | rfl | rfl | rfl <;> exact ⟨_, rfl, by omega, by omega⟩))).mono ?_
  rintro e w5 ⟨b, ⟨bl, bh⟩, rfl, g5, c5⟩
  have g15 := g4.trans ((World.grownBy_alloc w4 _ (some w.heap.size)).trans g5)
  have b5 := below_of_grown b1 g15
  have HS5 := Lib.hid (HS1.out.grown g15)
  have hp := P_any f
  have HM := Lib.hid (sModulus f w5)
  clear b1 g4 g5 g15 c1 c4 HS1
  generalize P f = p at *
  go_wp2_with fail
  go_loopw [10, 11] (fun c r wr => ∃ (C : Nat) (R : Int), c = .int .i64 C ∧ C ≤ 40 ∧ r = .int .i64 R ∧ 0 ≤ R ∧ R ≤ 1004535809 * 65537 ∧ w5 = wr) (fun c _ _ => 40 - (intOf c).toNat)
  case atStart => exact ⟨1, b, by simp, by omega, rfl, by omega, by omega, rfl⟩
  case round =>
    obtain ⟨C, R, rfl, hC, rfl, hR0, hR1, rfl⟩ := hrel
    by_cases h2 : R < p
    · have d2 : decide (R < p) = true := decide_eq_true h2
      by_cases h3 : 1 < b
      · have d3 : decide (1 < b) = true := decide_eq_true h3
        by_cases h4 : C < 40
        · have d4 : decide ((C : Int) < 40) = true := decide_eq_true (by omega)
          have hm : R * b ≤ 1004535809 * 65537 := Int.mul_le_mul (by omega) bh (by omega) (by omega)
          have hm0 : 0 ≤ R * b := Int.mul_nonneg hR0 (by omega)
          have q1 : IntKind.i64.wrap (R * b) = R * b := IntWalk.i64_in _ (by omega)
          go_wp2_with fail
          refine HM.out.mono ?_
          rintro e w' ⟨rfl, rfl⟩
          go_wp2
          go_roundw
          case rel => exact ⟨C + 1, R * b, by go_num, by omega, rfl, hm0, hm, by trivial⟩
          case measure => simp [intOf]; omega
        · have d4 : decide ((C : Int) < 40) = false := decide_eq_false (by omega)
          go_wp2_with fail
          refine HM.out.mono ?_
          rintro e w' ⟨rfl, rfl⟩
          go_wp2_with fail
          refine (pick_c (fun v => -1 ≤ v ∧ v ≤ 2) w.heap.size w5.heap.size 5 5 _ (c5.alloc _) (by omega) (by omega) (ints_alloc (fun v => -1 ≤ v ∧ v ≤ 2) c5.lt #[.int .i64 0, .int .i64 0, .int .i64 1, .int .i64 2, .int .i64 (-1)] 3 (fun j hj => by
            have h3 : j = 0 ∨ j = 1 ∨ j = 2 ∨ j = 3 ∨ j = 4 := by have : j < 5 := hj; omega
            rcases h3 with rfl | rfl | rfl | rfl | rfl <;> exact ⟨_, rfl, by omega, by omega⟩))).mono ?_
          rintro e w6 ⟨u, ⟨ul, uh⟩, rfl, g6, c6⟩
          have g56 := (World.grownBy_alloc w5 _ (some w.heap.size)).trans g6
          have b6 := below_of_grown b5 g56
          have HS6 := Lib.hid (HS5.out.grown g56)
          clear g6 g56 c6 c5 HS5 b5 HM
          go_wp2
          refine bodyPost_ret (results_tmpZ rfl _ _ _) rfl ?_
          exact ⟨f, a1, l, cap1, b, C + u, rfl, by omega, HS6.out.src, b6⟩
      · have d3 : decide (1 < b) = false := decide_eq_false h3
        go_wp2_with fail
        refine HM.out.mono ?_
        rintro e w' ⟨rfl, rfl⟩
        go_wp2_with fail
        refine (pick_c (fun v => -1 ≤ v ∧ v ≤ 2) w.heap.size w5.heap.size 5 5 _ (c5.alloc _) (by omega) (by omega) (ints_alloc (fun v => -1 ≤ v ∧ v ≤ 2) c5.lt #[.int .i64 0, .int .i64 0, .int .i64 1, .int .i64 2, .int .i64 (-1)] 3 (fun j hj => by
          have h3 : j = 0 ∨ j = 1 ∨ j = 2 ∨ j = 3 ∨ j = 4 := by have : j < 5 := hj; omega
          rcases h3 with rfl | rfl | rfl | rfl | rfl <;> exact ⟨_, rfl, by omega, by omega⟩))).mono ?_
        rintro e w6 ⟨u, ⟨ul, uh⟩, rfl, g6, c6⟩
        have g56 := (World.grownBy_alloc w5 _ (some w.heap.size)).trans g6
        have b6 := below_of_grown b5 g56
        have HS6 := Lib.hid (HS5.out.grown g56)
        clear g6 g56 c6 c5 HS5 b5 HM
        go_wp2
        refine bodyPost_ret (results_tmpZ rfl _ _ _) rfl ?_
        exact ⟨f, a1, l, cap1, b, C + u, rfl, by omega, HS6.out.src, b6⟩
    · have d2 : decide (R < p) = false := decide_eq_false h2
      go_wp2_with fail
      refine HM.out.mono ?_
      rintro e w' ⟨rfl, rfl⟩
      go_wp2_with fail
      refine (pick_c (fun v => -1 ≤ v ∧ v ≤ 2) w.heap.size w5.heap.size 5 5 _ (c5.alloc _) (by omega) (by omega) (ints_alloc (fun v => -1 ≤ v ∧ v ≤ 2) c5.lt #[.int .i64 0, .int .i64 0, .int .i64 1, .int .i64 2, .int .i64 (-1)] 3 (fun j hj => by
        have h3 : j = 0 ∨ j = 1 ∨ j = 2 ∨ j = 3 ∨ j = 4 := by have : j < 5 := hj; omega
        rcases h3 with rfl | rfl | rfl | rfl | rfl <;> exact ⟨_, rfl, by omega, by omega⟩))).mono ?_
      rintro e w6 ⟨u, ⟨ul, uh⟩, rfl, g6, c6⟩
      have g56 := (World.grownBy_alloc w5 _ (some w.heap.size)).trans g6
      have b6 := below_of_grown b5 g56
      have HS6 := Lib.hid (HS5.out.grown g56)
      clear g6 g56 c6 c5 HS5 b5 HM
      go_wp2
      refine bodyPost_ret (results_tmpZ rfl _ _ _) rfl ?_
      exact ⟨f, a1, l, cap1, b, C + u, rfl, by omega, HS6.out.src, b6⟩
end Go.Proofs.YtfocdlkophdfoaaDoor
namespace Go.Proofs.YtfocdlkophdfoaaDoor
open Go.RowKit
set_option maxRecDepth 100000 in
set_option maxHeartbeats 3200000 in
theorem iDigitParts_on (f b : Int) (a : Option Addr) (l : List Int) (cap C : Nat) (w : World) (hn : l.length ≤ 1048576) (hs : Src w a l.length (lf l)) (ht : Tab w) (h : okPart f l b C) : Calls Tryd.prog 8 #[.int .i64 f, .slice a l.length cap, .int .i64 b, .int .i64 C] w (OwnSSB w ((List.range C).map (digF8 l b)) true) := by
  obtain ⟨hv, ⟨hb0, hb5⟩, hc, hP⟩ := h
  rw [Int.toNat_natCast] at hP
  have HV : Hid (Calls Tryd.prog 28 #[.int .i64 f, .slice a l.length cap] w (SameB w true)) := Lib.hid (by have := iVectorOk f a l cap w hn hs ht; rwa [vok_iff.2 hv] at this)
  have HIB : Hid (Calls Tryd.prog 29 #[.int .i64 b] w fun e w' => e = .returned (.bool true) ∧ w = w') := Lib.hid (by have := isBase_c b w; rwa [decide_eq_true ⟨hb0, hb5⟩] at this)
  have HIC : Hid (Calls Tryd.prog 30 #[.int .i64 C] w fun e w' => e = .returned (.bool true) ∧ w = w') := Lib.hid (by have := isPartCount_c C w; rwa [decide_eq_true hc] at this)
  have HMD := Lib.hid (iModulus f w ht)
  have hn0 := hv.pos.1
  have hn5 := hv.pos.2
  have h08 := hv.f08
  have hp := P_bd h08.1 h08.2
  have HHD : Hid (Calls Tryd.prog 31 #[.int .i64 (P f - 1), .int .i64 b, .int .i64 C] w fun e w' => e = .returned (.bool true) ∧ w = w') := Lib.hid (by have := hasDigits_c (P f - 1) b C w (by omega) ⟨hb0, hb5⟩ (by omega); rwa [decide_eq_true (by omega)] at this)
  have HA := Lib.hid hv.lt
  have HRP : Hid (∀ d, 1 ≤ b ^ d) := Lib.hid fun d => by have := pow_pos8 hb0 d; omega
  have HDS : Hid (∀ j d, lf l j / b ^ d / b = lf l j / b ^ (d + 1)) := Lib.hid fun j d => dig_step hb0 (lf l j) d
  have HD0 : Hid (∀ j, lf l j / b ^ 0 = lf l j) := Lib.hid fun j => by rw [Int.pow_zero, Int.ediv_one]
  obtain ⟨bl, off, rfl, hlt, hcl⟩ := vec_some hs hn0
  have HCL : Hid (∀ W, Below w.heap.size w W → Calls Tryd.prog 33 #[.slice (some ⟨bl, off, none⟩) l.length cap] W fun e w' => ∃ g c, e = .returned (.slice (some ⟨g, 0, none⟩) l.length c) ∧ W.heap.size ≤ g ∧ OwnV w' g l.length c (lf l) ∧ Below W.heap.size W w') := Lib.hid fun W hb => clone_c bl off l.length cap (lf l) W hn0 hn (Nat.lt_of_lt_of_le hlt hb.size) (fun j hj => (hb.cell (p := ⟨bl, off + j, none⟩) hlt).trans (hcl j hj))
  have HF : Hid (∀ W gS gr, Laid8 W w.heap.size gS gr l.length C C (fun d j => lf l j / b ^ d % b) → w.heap.size ≤ gS → Below w.heap.size w W → OwnSSB w ((List.range C).map (digF8 l b)) true (.returned (.tuple #[.slice (some ⟨gS, 0, none⟩) C C, .bool true])) W) := Lib.hid fun W gS gr hp hg hb => by
    obtain ⟨gs, h1, h2, h3⟩ := hp
    refine ⟨_, C, by rw [parts_len], .inr ⟨gS, rfl, (parts_len _ _ _).symm, hg, gs, ?_, fun t ht => ?_, fun t t' ht ht' => h3 t t' (by rwa [parts_len] at ht) (by rwa [parts_len] at ht')⟩, hb⟩
    · rw [parts_len]
      exact World.rowIs.congr h1 fun t ht => by rw [if_pos ht, part_get ht, digF8_len]
    · rw [parts_len] at ht
      obtain ⟨a1, a2, a3, a4⟩ := h2 t ht
      rw [part_get ht, digF8_len]
      exact ⟨a1, a2, own_congr a4 rfl fun j hj => (lf_digF8 hj).symm⟩
  have hmk := run_make_row' (P := Tryd.prog) 24 3 (.int .i64 0) 8 Tryd.underlying24 info3 rfl .i64 .i64 l.length (by omega) (by omega)
  have hmk2 := run_make_row' (P := Tryd.prog) 27 24 (.slice none 0 0) 24 Tryd.underlying27 info22 rfl .i64 .i64 C (by omega) (by omega)
  generalize hR : (fun d : Nat => b ^ d) = R at *
  have HR : Hid (∀ d, b ^ d = R d) := Lib.hid fun d => by rw [← hR]
  simp only [HR.out] at HRP HDS HD0 HF hP
  clear hs hv hR HR hcl
  generalize ((List.range C).map (digF8 l b)) = OL at *
  generalize lf l = A at *
  generalize l.length = n at *
  have kz : (b == 0) = false := by rw [beq_eq_false_iff_ne]; omega
  have kz2 : ¬ b = 0 := by omega
  go_enter Tryd.func8, Tryd.ntmps8
  go_wp2_with fail
  refine HV.out.mono ?_
  rintro e w' ⟨rfl, rfl⟩
  go_wp2_with fail
  refine HIB.out.mono ?_
  rintro e w' ⟨rfl, rfl⟩
  go_wp2_with fail
  refine HIC.out.mono ?_
  rintro e w' ⟨rfl, rfl⟩
  go_wp2_with fail
  refine HMD.out.mono ?_
  rintro e w' ⟨rfl, rfl⟩
  go_wp2_with fail
  refine HHD.out.mono ?_
  rintro e w' ⟨rfl, rfl⟩
  clear HV HIB HIC HMD HHD
  go_wp2_with fail
  refine (HCL.out _ ((Below.refl _ _).alloc (Nat.le_refl _) _)).mono ?_
  rintro e w1 ⟨gr, cr, rfl, hgr, hov, hb1⟩
  obtain ⟨gS, hgS⟩ : ∃ gS, gS = w.heap.size := ⟨_, rfl⟩
  have hgr1 : gS < gr := by simp at hgr; omega
  have hgS0 : w.heap.size ≤ gS := by omega
  have HOL0 : Hid (OwnV w1 gr n cr (fun j => A j / R 0)) := Lib.hid (hov.congr fun j _ => (HD0.out j).symm)
  have HLA : Hid (Laid8 w1 w.heap.size gS gr n C 0 (fun d j => A j / R d % b)) := Lib.hid ⟨fun _ => 0, by
    have h1 := World.rowIs_made w (.slice none 0 0) C 24
    rw [hgS]
    exact World.rowIs.congr (World.rowIs.of_block h1 (hb1.block _ h1.lt)) fun t _ => by simp, fun t ht => absurd ht (by omega), fun t _ ht => absurd ht (by omega)⟩
  have hbw : Below w.heap.size w w1 := below_up ((Below.refl _ _).alloc (Nat.le_refl _) (.cells (madeCells #[.slice none 0 0] C) 24)) hb1 (by simp)
  rw [← hgS]
  clear hov HCL hb1 hgr hmk2 HD0 hgS
  go_wp2_with fail
  go_loopw [12, 13, 14, 42] (fun _ _ _ i wr => ∃ d : Nat, i = .int .i64 d ∧ d ≤ C ∧ Hid (Laid8 wr w.heap.size gS gr n C d (fun d j => A j / R d % b)) ∧ Hid (OwnV wr gr n cr (fun j => A j / R d)) ∧ Below w.heap.size w wr) (fun _ _ _ i _ => C - (intOf i).toNat)
  case atStart => exact ⟨0, rfl, Nat.zero_le _, HLA, HOL0, hbw⟩
  case round =>
    clear HLA HOL0 hbw
    obtain ⟨d, rfl, hd, HLA, HOL, hb⟩ := hrel
    by_cases h1 : d < C
    · have hd1 : decide ((d : Int) < C) = true := decide_eq_true (by omega)
      obtain ⟨gs, hsp, hrows, hdis⟩ := HLA.out
      have hgl := HOL.out.lt
      have hsl := hsp.lt
      have hsz := hb.size
      have HSP := Lib.hid hsp
      have HROWS := Lib.hid hrows
      have HDIS := Lib.hid hdis
      have hspa : (wr.alloc (.cells (madeCells #[.int .i64 0] n) 3)).rowIs gS 24 C (fun t => if t < d then .slice (some ⟨gs t, 0, none⟩) n n else .slice none 0 0) := World.rowIs.of_block hsp (Below.heap_alloc wr _ _ hsl)
      have c1 := World.rowIs.cell hspa h1
      have c2 := World.rowIs.frozen hspa d
      rw [if_neg (Nat.lt_irrefl d)] at c1
      have i1 : (0 : Int) ≤ (d : Int) := by omega
      have i2 : (d : Int) < (C : Int) := by omega
      clear hsp hrows hdis HLA
      go_wp2_with fail
      obtain ⟨gp, hgp⟩ : ∃ gp, wr.heap.size = gp := ⟨_, rfl⟩
      have hzz : (wr.setCell ⟨gS, d, none⟩ (.slice (some ⟨gp, 0, none⟩) n n)).heap.size = gp := by rw [← hgp]; simp [World.setCell]
      have b1 := hb.setCell (p := ⟨gS, d, none⟩) hgS0 (.slice (some ⟨gp, 0, none⟩) n n)
      have b2 : Below w.heap.size w ((wr.setCell ⟨gS, d, none⟩ (.slice (some ⟨gp, 0, none⟩) n n)).alloc (.cells (madeCells #[.int .i64 0] n) 3)) := b1.alloc b1.size _
      have s1 := World.rowIs.set HSP.out d (.slice (some ⟨gp, 0, none⟩) n n)
      have s2 : ((wr.setCell ⟨gS, d, none⟩ (.slice (some ⟨gp, 0, none⟩) n n)).alloc (.cells (madeCells #[.int .i64 0] n) 3)).rowIs gS 24 C (fun t => if t = d then .slice (some ⟨gp, 0, none⟩) n n else if t < d then .slice (some ⟨gs t, 0, none⟩) n n else .slice none 0 0) := World.rowIs.of_block s1 (Below.heap_alloc _ _ _ s1.lt)
      have r2 : ∀ t, t < d → Own ((wr.setCell ⟨gS, d, none⟩ (.slice (some ⟨gp, 0, none⟩) n n)).alloc (.cells (madeCells #[.int .i64 0] n) 3)) (gs t) n (fun j => A j / R t % b) := fun t ht => by
        obtain ⟨a1, a2, a3, a4⟩ := HROWS.out t ht
        have a5 : Own (wr.setCell ⟨gS, d, none⟩ (.slice (some ⟨gp, 0, none⟩) n n)) (gs t) n (fun j => A j / R t % b) := own_other a4 a2
        exact World.rowIs.of_block a5 (Below.heap_alloc _ _ _ a5.lt)
      have l2 : ∀ t, t < d → gs t < gp := fun t ht => by rw [← hgp]; exact (HROWS.out t ht).2.2.2.lt
      have z2 : Own ((wr.setCell ⟨gS, d, none⟩ (.slice (some ⟨gp, 0, none⟩) n n)).alloc (.cells (madeCells #[.int .i64 0] n) 3)) gp n (fun t => if t < 0 then A t / R d % b else 0) := by
        have h9 := World.rowIs_made (wr.setCell ⟨gS, d, none⟩ (.slice (some ⟨gp, 0, none⟩) n n)) (.int .i64 0) n 3
        rw [hzz] at h9
        exact World.rowIs.congr h9 fun t _ => by simp
      have o2 : OwnV ((wr.setCell ⟨gS, d, none⟩ (.slice (some ⟨gp, 0, none⟩) n n)).alloc (.cells (madeCells #[.int .i64 0] n) 3)) gr n cr (fun t => if t < 0 then A t / R (d + 1) else A t / R d) := ((HOL.out.other (by omega)).grownR (World.grownBy_alloc _ _ none) (by simp)).congr fun t _ => by simp
      have hpS : gp ≠ gS := by omega
      have hpr : gp ≠ gr := by omega
      have hwp : w.heap.size ≤ gp := by omega
      rw [hgp]
      clear hspa c1 c2 hb hgp HOL HSP b1 s1 hzz
      generalize (wr.setCell ⟨gS, d, none⟩ (.slice (some ⟨gp, 0, none⟩) n n)).alloc (.cells (madeCells #[.int .i64 0] n) 3) = W1 at *
      have hS1 := s2.lt
      have S2 := Lib.hid s2
      have R2 := Lib.hid r2
      have Z2 := Lib.hid z2
      have O2 := Lib.hid o2
      have T2 := Lib.hid (Two8.refl W1 gp gr)
      clear s2 r2 z2 o2
      go_loopw [13, 14, 53] (fun _ _ i W => ∃ j : Nat, i = .int .i64 j ∧ j ≤ n ∧ Hid (Own W gp n (fun t => if t < j then A t / R d % b else 0)) ∧ Hid (OwnV W gr n cr (fun t => if t < j then A t / R (d + 1) else A t / R d)) ∧ Hid (Two8 W1 W gp gr)) (fun _ _ i _ => n - (intOf i).toNat)
      case atStart => exact ⟨0, rfl, Nat.zero_le _, Z2, O2, T2⟩
      case round =>
        clear Z2 O2 T2
        obtain ⟨j, rfl, hj, Z2, O2, T2⟩ := hrel
        by_cases h2 : j < n
        · have hd2 : decide ((j : Int) < n) = true := decide_eq_true (by omega)
          have cL := O2.out.cell h2
          simp only [Nat.lt_irrefl, if_false] at cL
          have cS : wr.cell? ⟨gS, d, none⟩ = some (.slice (some ⟨gp, 0, none⟩) n n) := by
            have := World.rowIs.cell (World.rowIs.of_block S2.out (T2.out.2.2 gS hS1 (Ne.symm hpS) (by omega))) h1
            simpa using this
          have cP := World.rowIs.cell Z2.out h2
          have fP := World.rowIs.frozen Z2.out j
          have fL := O2.out.frozen j
          have hA := HA.out j
          have hX0 : 0 ≤ A j / R d := Int.ediv_nonneg hA.1 (by have := HRP.out d; omega)
          have hX1 : A j / R d ≤ A j := Int.ediv_le_self _ hA.1
          have t1 : (A j / R d).tdiv b = A j / R (d + 1) := by rw [Int.tdiv_eq_ediv_of_nonneg hX0, HDS.out j d]
          have t2 : (A j / R d).tmod b = A j / R d % b := Int.tmod_eq_emod_of_nonneg hX0
          have hY0 : 0 ≤ A j / R (d + 1) := Int.ediv_nonneg hA.1 (by have := HRP.out (d + 1); omega)
          have hY1 : A j / R (d + 1) ≤ A j := Int.ediv_le_self _ hA.1
          have zd : Own wr.drew gp n (fun t => if t < j then A t / R d % b else 0) := Z2.out
          have od : OwnV wr.drew gr n cr (fun t => if t < j then A t / R (d + 1) else A t / R d) := O2.out
          have td : Two8 W1 wr.drew gp gr := T2.out
          have eP : ∀ t, t < n → (if t = j then (.int .i64 (A j / R d % b)) else (Value.int .i64 (if t < j then A t / R d % b else 0))) = Value.int .i64 (if t < j + 1 then A t / R d % b else 0) := fun t _ => by
            by_cases e1 : t = j
            · rw [if_pos e1, if_pos (by omega), e1]
            · rw [if_neg e1]
              by_cases e2 : t < j
              · rw [if_pos e2, if_pos (by omega)]
              · rw [if_neg e2, if_neg (by omega)]
          have eL : ∀ t, t < n → upd (fun t => if t < j then A t / R (d + 1) else A t / R d) j (A j / R (d + 1)) t = (if t < j + 1 then A t / R (d + 1) else A t / R d) := fun t _ => by
            show (if t = j then A j / R (d + 1) else (if t < j then A t / R (d + 1) else A t / R d)) = _
            by_cases e1 : t = j
            · rw [if_pos e1, if_pos (by omega), e1]
            · rw [if_neg e1]
              by_cases e2 : t < j
              · rw [if_pos e2, if_pos (by omega)]
              · rw [if_neg e2, if_neg (by omega)]
          have HS1 : Hid (Own ((wr.drew.setCell ⟨gp, j, none⟩ (.int .i64 (A j / R d % b))).setCell ⟨gr, j, none⟩ (.int .i64 (A j / R (d + 1)))) gp n (fun t => if t < j + 1 then A t / R d % b else 0) ∧ OwnV ((wr.drew.setCell ⟨gp, j, none⟩ (.int .i64 (A j / R d % b))).setCell ⟨gr, j, none⟩ (.int .i64 (A j / R (d + 1)))) gr n cr (fun t => if t < j + 1 then A t / R (d + 1) else A t / R d) ∧ Two8 W1 ((wr.drew.setCell ⟨gp, j, none⟩ (.int .i64 (A j / R d % b))).setCell ⟨gr, j, none⟩ (.int .i64 (A j / R (d + 1)))) gp gr) :=
            Lib.hid ⟨own_other (World.rowIs.congr (World.rowIs.set zd j (.int .i64 (A j / R d % b))) eP) hpr, (OwnV.set (s := j) (x := A j / R (d + 1)) (od.other (Ne.symm hpr))).congr eL, (td.set (.inl rfl)).set (.inr rfl)⟩
          have HS2 : Hid (Own ((wr.drew.setCell ⟨gr, j, none⟩ (.int .i64 (A j / R (d + 1)))).setCell ⟨gp, j, none⟩ (.int .i64 (A j / R d % b))) gp n (fun t => if t < j + 1 then A t / R d % b else 0) ∧ OwnV ((wr.drew.setCell ⟨gr, j, none⟩ (.int .i64 (A j / R (d + 1)))).setCell ⟨gp, j, none⟩ (.int .i64 (A j / R d % b))) gr n cr (fun t => if t < j + 1 then A t / R (d + 1) else A t / R d) ∧ Two8 W1 ((wr.drew.setCell ⟨gr, j, none⟩ (.int .i64 (A j / R (d + 1)))).setCell ⟨gp, j, none⟩ (.int .i64 (A j / R d % b))) gp gr) :=
            Lib.hid ⟨World.rowIs.congr (World.rowIs.set (own_other zd hpr) j (.int .i64 (A j / R d % b))) eP, ((OwnV.set (s := j) (x := A j / R (d + 1)) od).other (Ne.symm hpr)).congr eL, (td.set (.inr rfl)).set (.inl rfl)⟩
          have i3 : (0 : Int) ≤ (j : Int) := by omega
          have i4 : (j : Int) < (n : Int) := by omega
          clear Z2 O2 T2 zd od td eP eL
          generalize A j / R d % b = Z at *
          generalize A j / R (d + 1) = Y at *
          generalize A j / R d = X at *
          go_wp2_with fail
          go_region
          all_goals go_wp2
          all_goals go_roundw
          case rel => first | exact ⟨j + 1, by go_num, by omega, Lib.hid HS1.out.1, Lib.hid HS1.out.2.1, Lib.hid HS1.out.2.2⟩ | exact ⟨j + 1, by go_num, by omega, Lib.hid HS2.out.1, Lib.hid HS2.out.2.1, Lib.hid HS2.out.2.2⟩
          case measure => simp [intOf]; omega
        · have hd2 : decide ((j : Int) < n) = false := decide_eq_false (by omega)
          obtain rfl : j = n := by omega
          have HLN : Hid (Laid8 wr w.heap.size gS gr j C (d + 1) (fun d t => A t / R d % b)) := Lib.hid (by
            refine ⟨fun t => if t = d then gp else gs t, World.rowIs.congr (World.rowIs.of_block S2.out (T2.out.2.2 gS hS1 (Ne.symm hpS) (by omega))) fun t ht => ?_, fun t ht => ?_, fun t t' ht ht' hne => ?_⟩
            · show _ = if t < d + 1 then Value.slice (some ⟨if t = d then gp else gs t, 0, none⟩) j j else Value.slice none 0 0
              by_cases e1 : t = d
              · rw [if_pos e1, if_pos (by omega), if_pos e1]
              · rw [if_neg e1, if_neg e1]
                by_cases e2 : t < d
                · rw [if_pos e2, if_pos (by omega)]
                · rw [if_neg e2, if_neg (by omega)]
            · by_cases e1 : t = d
              · subst e1
                simp only [if_true]
                exact ⟨hwp, hpS, hpr, own_congr Z2.out rfl fun i hi => if_pos hi⟩
              · simp only [if_neg e1]
                obtain ⟨a1, a2, a3, a4⟩ := HROWS.out t (by omega)
                have a5 := R2.out t (by omega)
                have a6 := l2 t (by omega)
                exact ⟨a1, a2, a3, World.rowIs.of_block a5 (T2.out.2.2 _ a5.lt (by omega) a3)⟩
            · have q1 := fun h => l2 t h
              have q2 := fun h => l2 t' h
              show (if t = d then gp else gs t) ≠ (if t' = d then gp else gs t')
              by_cases e1 : t = d
              · rw [if_pos e1, if_neg (by omega)]
                have := q2 (by omega)
                omega
              · rw [if_neg e1]
                by_cases e2 : t' = d
                · rw [if_pos e2]
                  have := q1 (by omega)
                  omega
                · rw [if_neg e2]
                  exact HDIS.out t t' (by omega) (by omega) hne)
          have HON : Hid (OwnV wr gr j cr (fun t => A t / R (d + 1))) := Lib.hid (O2.out.congr fun t ht => if_pos ht)
          have HBN := T2.out.below b2 hwp (by omega)
          clear S2 R2 Z2 O2 T2 HROWS HDIS b2 l2
          go_wp2
          go_roundw
          case rel => exact ⟨d + 1, by go_num, by omega, HLN, HON, HBN⟩
          case measure => simp [intOf]; omega
    · have hd1 : decide ((d : Int) < C) = false := decide_eq_false (by omega)
      obtain rfl : d = C := by omega
      have HL := Lib.hid (HF.out _ _ _ HLA.out hgS0 hb)
      clear HLA HOL HF
      go_wp2
      go_ret2
      exact HL.out
theorem iDigitParts_off (f b c : Int) (a : Option Addr) (l : List Int) (cap : Nat) (w : World) (hn : l.length ≤ 1048576) (hs : Src w a l.length (lf l)) (ht : Tab w) (h : ¬ okPart f l b c) : Calls Tryd.prog 8 #[.int .i64 f, .slice a l.length cap, .int .i64 b, .int .i64 c] w (OwnSSB w [] false) := by
  have R1 := iVectorOk f a l cap w hn hs ht
  have HIB := Lib.hid (isBase_c b w)
  have HIC := Lib.hid (isPartCount_c c w)
  by_cases hv : VecOk f l
  rotate_left
  · rw [vok_not.2 hv] at R1
    have HV := Lib.hid R1
    clear hs h hv R1 HIB HIC
    go_enter Tryd.func8, Tryd.ntmps8
    go_wp2_with fail
    refine HV.out.mono ?_
    rintro e w' ⟨rfl, rfl⟩
    go_wp2
    go_ret2
    exact nil_ownSSB w
  rw [vok_iff.2 hv] at R1
  have HV := Lib.hid R1
  by_cases hb : 2 ≤ b ∧ b ≤ 65536
  rotate_left
  · rw [decide_eq_false hb] at HIB
    clear hs h hv R1 HIC hb
    go_enter Tryd.func8, Tryd.ntmps8
    go_wp2_with fail
    refine HV.out.mono ?_
    rintro e w' ⟨rfl, rfl⟩
    go_wp2_with fail
    refine HIB.out.mono ?_
    rintro e w' ⟨rfl, rfl⟩
    go_wp2
    go_ret2
    exact nil_ownSSB w
  rw [decide_eq_true hb] at HIB
  by_cases hc : 1 ≤ c ∧ c ≤ 32
  rotate_left
  · rw [decide_eq_false hc] at HIC
    clear hs h hv R1 hb hc
    go_enter Tryd.func8, Tryd.ntmps8
    go_wp2_with fail
    refine HV.out.mono ?_
    rintro e w' ⟨rfl, rfl⟩
    go_wp2_with fail
    refine HIB.out.mono ?_
    rintro e w' ⟨rfl, rfl⟩
    go_wp2_with fail
    refine HIC.out.mono ?_
    rintro e w' ⟨rfl, rfl⟩
    go_wp2
    go_ret2
    exact nil_ownSSB w
  rw [decide_eq_true hc] at HIC
  obtain ⟨C, rfl⟩ : ∃ C : Nat, c = C := ⟨c.toNat, by omega⟩
  have hP : b ^ C < P f := Int.lt_of_not_ge fun hp => h ⟨hv, hb, hc, by rw [Int.toNat_natCast]; exact hp⟩
  have hp := P_bd hv.f08.1 hv.f08.2
  have HMD := Lib.hid (iModulus f w ht)
  have HHD : Hid (Calls Tryd.prog 31 #[.int .i64 (P f - 1), .int .i64 b, .int .i64 C] w fun e w' => e = .returned (.bool false) ∧ w = w') := Lib.hid (by have := hasDigits_c (P f - 1) b C w (by omega) hb (by omega); rwa [decide_eq_false (by omega)] at this)
  clear hs h hv R1 hb hP
  go_enter Tryd.func8, Tryd.ntmps8
  go_wp2_with fail
  refine HV.out.mono ?_
  rintro e w' ⟨rfl, rfl⟩
  go_wp2_with fail
  refine HIB.out.mono ?_
  rintro e w' ⟨rfl, rfl⟩
  go_wp2_with fail
  refine HIC.out.mono ?_
  rintro e w' ⟨rfl, rfl⟩
  go_wp2_with fail
  refine HMD.out.mono ?_
  rintro e w' ⟨rfl, rfl⟩
  go_wp2_with fail
  refine HHD.out.mono ?_
  rintro e w' ⟨rfl, rfl⟩
  go_wp2
  go_ret2
  exact nil_ownSSB w
theorem iDigitParts (f : Int) (a : Option Addr) (l : List Int) (cap : Nat) (b c : Int) (w : World) (hn : l.length ≤ 1048576) (hs : Src w a l.length (lf l)) (ht : Tab w) : Calls Tryd.prog 8 #[.int .i64 f, .slice a l.length cap, .int .i64 b, .int .i64 c] w (OwnSSB w (mDigitParts0 f l b c) (mDigitParts1 f l b c)) := by
  by_cases h : okPart f l b c
  · rw [show mDigitParts0 f l b c = (List.range c.toNat).map (digF8 l b) by unfold mDigitParts0; rw [if_pos h], show mDigitParts1 f l b c = true by simp only [mDigitParts1, decide_eq_true_eq]; exact h]
    obtain ⟨C, rfl⟩ : ∃ C : Nat, c = C := ⟨c.toNat, by have := h.2.2.1; omega⟩
    rw [Int.toNat_natCast]
    exact iDigitParts_on f b a l cap C w hn hs ht h
  · rw [show mDigitParts0 f l b c = [] by unfold mDigitParts0; rw [if_neg h], show mDigitParts1 f l b c = false by simp only [mDigitParts1, decide_eq_false_iff_not]; exact h]
    exact iDigitParts_off f b c a l cap w hn hs ht h
end Go.Proofs.YtfocdlkophdfoaaDoor
namespace Go.Proofs.YtfocdlkophdfoaaDoor
open Go.RowKit
/-- A row of words. -/
def RowW (K : IntKind) (t : TypeId) (w : World) (g n : Nat) (F : Nat → Int) : Prop := w.rowIs g t n (fun j => .int K (F j))
theorem RowW.cell {K : IntKind} {t : TypeId} {w : World} {g n : Nat} {F : Nat → Int} (h : RowW K t w g n F) {j : Nat} (hj : j < n) : w.cell? ⟨g, j, none⟩ = some (.int K (F j)) := World.rowIs.cell h hj
theorem RowW.frozen {K : IntKind} {t : TypeId} {w : World} {g n : Nat} {F : Nat → Int} (h : RowW K t w g n F) (j : Nat) : w.frozen? ⟨g, j, none⟩ = false := World.rowIs.frozen h j
theorem RowW.lt {K : IntKind} {t : TypeId} {w : World} {g n : Nat} {F : Nat → Int} (h : RowW K t w g n F) : g < w.heap.size := World.rowIs.lt h
theorem RowW.congr {K : IntKind} {t : TypeId} {w : World} {g n : Nat} {F G : Nat → Int} (h : RowW K t w g n F) (e : ∀ j, j < n → F j = G j) : RowW K t w g n G := World.rowIs.congr h fun j hj => by rw [e j hj]
theorem RowW.set {K : IntKind} {t : TypeId} {w : World} {g n : Nat} {F : Nat → Int} (h : RowW K t w g n F) (s : Nat) (x : Int) : RowW K t (w.setCell ⟨g, s, none⟩ (.int K x)) g n (fun j => if j = s then x else F j) :=
  (World.rowIs.set h s (.int K x)).congr fun j _ => by show (if j = s then Value.int K x else Value.int K (F j)) = Value.int K (if j = s then x else F j); split <;> rfl
theorem RowW.other {K : IntKind} {t : TypeId} {w w' : World} {g r n : Nat} {F : Nat → Int} (h : RowW K t w r n F) (hg : w.grownBy w' (some g)) (hne : r ≠ g) : RowW K t w' r n F :=
  World.rowIs.of_block h (hg.block r h.lt (fun e => hne (by injection e)))
theorem RowW.keep {K : IntKind} {t : TypeId} {w w' : World} {g n : Nat} {F : Nat → Int} (h : RowW K t w g n F) (hb : Below w.heap.size w w') : RowW K t w' g n F := World.rowIs.of_block h (hb.block g h.lt)
end Go.Proofs.YtfocdlkophdfoaaDoor
namespace Go.Proofs.YtfocdlkophdfoaaDoor
open Mth Go.RowKit
theorem jo_step {f : Int} (h0 : 0 ≤ f) (h8 : f ≤ 8) (L : List (List Int)) (b : Int) (i d : Nat) : mAdd f (joF f L b i d) (mMul f (lf (L.getD d []) i) (mPower f b d)) = joF f L b i (d + 1) := by
  have e1 : mMul f (lf (L.getD d []) i) (mPower f b d) = RS (lf (L.getD d []) i * RS (b ^ d) (P f)) (P f) := by rw [power_nat h0 h8]; exact if_pos ⟨h0, h8⟩
  rw [e1]
  unfold mAdd
  rw [if_pos ⟨h0, h8⟩]
  unfold joF RS
  show _ = (sumN (fun d => lf (L.getD d []) i * b ^ d) d + lf (L.getD d []) i * b ^ d) % P f
  refine emod_add_congr (mod2 _ _) ?_
  rw [mod2]
  exact emod_mul_congr rfl (mod2 _ _)
theorem sRejoin_none (f b : Int) (a : Option Addr) (C cap : Nat) (w : World) (h : P f = 0 ∨ (¬ P f = 0 ∧ ¬ (2 ≤ b ∧ b ≤ 65536)) ∨ (¬ P f = 0 ∧ (2 ≤ b ∧ b ≤ 65536) ∧ ¬ (1 ≤ C ∧ C ≤ 32))) :
    Calls Tryd.prog 14 #[.int .i64 f, .slice a C cap, .int .i64 b] w (ListLB w [] false) := by
  have HF : Hid (ListLB w [] false (.returned (.tuple #[.slice none 0 0, .bool false])) w) := Lib.hid ⟨none, 0, rfl, .inl rfl, Below.refl _ _⟩
  have HM := Lib.hid (sModulus f w)
  rcases h with h | ⟨h, h2⟩ | ⟨h, h2, h3⟩
  · rw [h] at HM
    clear h
    go_enter Tryd.func14, Tryd.ntmps14
    go_wp2_with fail
    refine HM.out.mono ?_
    rintro e w' ⟨rfl, rfl⟩
    go_wp2
    go_ret2
    exact HF.out
  · have k : (P f == 0) = false := by rw [beq_eq_false_iff_ne]; exact h
    have HB := Lib.hid (sBase_no b w h2)
    clear h2
    generalize P f = p at *
    go_enter Tryd.func14, Tryd.ntmps14
    go_wp2_with fail
    refine HM.out.mono ?_
    rintro e w' ⟨rfl, rfl⟩
    go_wp2_with fail
    refine HB.out.mono ?_
    rintro e w' ⟨rfl, rfl⟩
    go_wp2
    go_ret2
    exact HF.out
  · have k : (P f == 0) = false := by rw [beq_eq_false_iff_ne]; exact h
    have HB := Lib.hid (sBase_yes b w h2)
    have HI := Lib.hid (in_no C 1 32 w (by omega))
    clear h2 h3
    generalize P f = p at *
    go_enter Tryd.func14, Tryd.ntmps14
    go_wp2_with fail
    refine HM.out.mono ?_
    rintro e w' ⟨rfl, rfl⟩
    go_wp2_with fail
    refine HB.out.mono ?_
    rintro e w' ⟨rfl, rfl⟩
    go_wp2_with fail
    refine HI.out.mono ?_
    rintro e w' ⟨rfl, rfl⟩
    go_wp2
    go_ret2
    exact HF.out
def GoodJ (f : Int) (L : List (List Int)) (d : Nat) : Prop := VecOk f (L.getD d []) ∧ (L.getD d []).length = (L.getD 0 []).length
set_option maxRecDepth 100000 in
set_option maxHeartbeats 3200000 in
theorem sRejoin_at (f b : Int) (a : Option Addr) (L : List (List Int)) (cap : Nat) (w : World) (hs : SrcSS w a L) (hl : ∀ d, (L.getD d []).length ≤ 1048576) (hp : ¬ P f = 0) (hb : 2 ≤ b ∧ b ≤ 65536) (hc : 1 ≤ L.length ∧ L.length ≤ 32) :
    Calls Tryd.prog 14 #[.int .i64 f, .slice a L.length cap, .int .i64 b] w (ListLB w (mRejoin0 f L b) (mRejoin1 f L b)) := by
  obtain ⟨i0, hi, hz0, hz1, hz2⟩ := info_parts info3
  have HI := Lib.hid hi
  have HZ0 := Lib.hid hz0
  have HZ1 := Lib.hid hz1
  have HZ2 := Lib.hid hz2
  clear hi hz0 hz1 hz2
  have HM := Lib.hid (sModulus f w)
  have kp : (P f == 0) = false := by rw [beq_eq_false_iff_ne]; exact hp
  have HB := Lib.hid (sBase_yes b w hb)
  have HIN := Lib.hid (in_yes L.length 1 32 w (by omega) (by omega))
  have hC0 : 0 < L.length := by omega
  have hC32 : L.length ≤ 32 := hc.2
  obtain ⟨bb, off, A, K, rfl, hlt, hrow⟩ := hs.fn hC0
  have HVO : Hid (∀ W d, Below w.heap.size w W → d < L.length → Calls Tryd.prog 24 #[.int .i64 f, .slice (A d) (L.getD d []).length (K d)] W (SameB W (mVectorOk f (L.getD d [])))) := Lib.hid fun W d hW hd => sVectorOk f (A d) (L.getD d []) (K d) W (hl d) ((hrow d hd).2.keep hW)
  have HCV : Hid (∀ d, d < L.length → w.cell? ⟨bb, off + d, none⟩ = some (.slice (A d) (L.getD d []).length (K d))) := Lib.hid fun d hd => (hrow d hd).1
  have c0 : w.cell? ⟨bb, off, none⟩ = some (.slice (A 0) (L.getD 0 []).length (K 0)) := by have := HCV.out 0 hC0; rwa [Nat.add_zero] at this
  have HBAD : Hid (∀ d W, d < L.length → ¬ GoodJ f L d → Below w.heap.size w W → ListLB w (mRejoin0 f L b) (mRejoin1 f L b) (.returned (.tuple #[.slice none 0 0, .bool false])) W) := Lib.hid fun d W hd h hW => by
    have hn : ¬ okJoin f L b := fun h2 => h (h2.2.2 d hd)
    rw [show mRejoin0 f L b = [] by unfold mRejoin0; rw [if_neg hn], show mRejoin1 f L b = false by simp only [mRejoin1, decide_eq_false_iff_not]; exact hn]
    exact ⟨none, 0, rfl, .inl rfl, hW⟩
  have HGOOD : Hid ((∀ d, d < L.length → GoodJ f L d) → (0 ≤ f ∧ f ≤ 8) ∧ (L.getD 0 []).length ≤ 512 ∧ (∀ d, d < L.length → (L.getD d []).length = (L.getD 0 []).length ∧ ∀ W, Below w.heap.size w W → Src W (A d) (L.getD 0 []).length (lf (L.getD d []))) ∧
      (∀ i d, mAdd f (joF f L b i d) (mMul f (lf (L.getD d []) i) (mPower f b d)) = joF f L b i (d + 1)) ∧
      ∀ W v, W.ownsRow w.heap.size 3 1 v (L.getD 0 []).length (xsF (fun i => joF f L b i L.length) (L.getD 0 []).length) → Below w.heap.size w W → ListLB w (mRejoin0 f L b) (mRejoin1 f L b) (.returned (.tuple #[v, .bool true])) W) := Lib.hid fun h => by
    have hok : okJoin f L b := ⟨hb, hc, h⟩
    have h08 := (h 0 hC0).1.f08
    refine ⟨h08, (h 0 hC0).1.pos.2, fun d hd => ⟨(h d hd).2, fun W hW => ?_⟩, fun i d => jo_step h08.1 h08.2 L b i d, fun W v ho hW => ?_⟩
    · have := (hrow d hd).2.keep hW
      rwa [(h d hd).2] at this
    · rw [show mRejoin0 f L b = joL f L b by unfold mRejoin0; rw [if_pos hok], show mRejoin1 f L b = true by simp only [mRejoin1, decide_eq_true_eq]; exact hok]
      obtain ⟨a', c', rfl, hsrc⟩ := src_of_owns ho
      have hlen : (joL f L b).length = (L.getD 0 []).length := tab_len _ _
      refine ⟨a', c', by rw [hlen], ?_, hW⟩
      rw [hlen]
      exact hsrc.congr fun i hi => by unfold joL; rw [lf_tab, if_pos hi]
  have HJ0 : Hid (∀ i, joF f L b i 0 = 0) := Lib.hid fun i => Int.zero_emod _
  generalize hJF : (fun i d => joF f L b i d) = JF at *
  have HJF : Hid (∀ i d, joF f L b i d = JF i d) := Lib.hid fun i d => by rw [← hJF]
  simp only [HJF.out] at HGOOD HJ0
  generalize mRejoin0 f L b = M0 at *
  generalize mRejoin1 f L b = M1 at *
  obtain ⟨C, hCC⟩ : ∃ C, L.length = C := ⟨_, rfl⟩
  simp only [hCC] at *
  have hC1i : (0 : Int) < (C : Int) := by omega
  generalize hPP : P f = p at *
  clear hrow hs hl hc hJF HJF hCC hPP
  go_enter Tryd.func14, Tryd.ntmps14
  go_wp2_with fail
  refine HM.out.mono ?_
  rintro e w' ⟨rfl, rfl⟩
  go_wp2_with fail
  refine HB.out.mono ?_
  rintro e w' ⟨rfl, rfl⟩
  go_wp2_with fail
  refine HIN.out.mono ?_
  rintro e w' ⟨rfl, rfl⟩
  clear HM HB HIN
  go_upto_block 0 with fail
  go_cut [8] from 27 (fun _ wc => (∀ d, d < C → GoodJ f L d) ∧ Below w.heap.size w wc)
  case first =>
    clear HGOOD HJ0
    go_wp2_with fail
    go_loopw [8] (fun i wr => ∃ d : Nat, i = .int .i64 d ∧ d ≤ C ∧ Hid (∀ t, t < d → GoodJ f L t) ∧ Below w.heap.size w wr) (fun i _ => C - (intOf i).toNat)
    case atStart => exact ⟨0, rfl, Nat.zero_le _, Lib.hid fun t ht => absurd ht (by omega), Below.refl _ _⟩
    case round =>
      obtain ⟨d, rfl, hd, HG, hbw⟩ := hrel
      by_cases h1 : d < C
      · have hd1 : decide ((d : Int) < C) = true := decide_eq_true (by omega)
        have i1 : (0 : Int) ≤ (d : Int) := by omega
        have i2 : (d : Int) < (C : Int) := by omega
        have cd := (hbw.cell (p := ⟨bb, off + d, none⟩) hlt).trans (HCV.out d h1)
        have c0w := (hbw.cell (p := ⟨bb, off, none⟩) hlt).trans c0
        have HV := Lib.hid (fun W hW => HVO.out W d hW h1)
        by_cases h2 : VecOk f (L.getD d [])
        · rw [vok_iff.2 h2] at HV
          by_cases h3 : (L.getD d []).length = (L.getD 0 []).length
          · have HG2 : Hid (∀ t, t < d + 1 → GoodJ f L t) := Lib.hid fun t ht => by
              by_cases e : t = d
              · rw [e]; exact ⟨h2, h3⟩
              · exact HG.out t (by omega)
            rw [h3] at cd HV
            clear h2 h3 HG c0
            generalize (L.getD 0 []).length = n0 at *
            have hne : ((n0 : Int) != (n0 : Int)) = false := by simp
            go_wp2_with fail
            go_quiet ((go_at_call 24; exact quiet_left (HV.out _ (below_drewN hbw _))))
            go_wp2
            go_roundw
            case rel => exact ⟨d + 1, by go_num, by omega, HG2, by first | exact hbw | exact below_drewN hbw _⟩
            case measure => simp [intOf]; omega
          · have HL := Lib.hid (fun W hW => HBAD.out d W h1 (fun h => h3 h.2) hW)
            have hne : (((L.getD d []).length : Int) != ((L.getD 0 []).length : Int)) = true := by rw [bne_iff_ne]; omega
            clear h2 h3 HG c0 HBAD
            generalize (L.getD 0 []).length = n0 at *
            generalize (L.getD d []).length = nd at *
            go_wp2_with fail
            go_quiet ((go_at_call 24; exact quiet_left (HV.out _ (below_drewN hbw _))))
            go_wp2
            go_ret2
            exact HL.out _ (below_drewN hbw _)
        · have HL := Lib.hid (fun W hW => HBAD.out d W h1 (fun h => h2 h.1) hW)
          rw [vok_not.2 h2] at HV
          clear h2 HG c0 HBAD
          generalize (L.getD 0 []).length = n0 at *
          generalize (L.getD d []).length = nd at *
          go_wp2_with fail
          go_quiet ((go_at_call 24; exact quiet_left (HV.out _ (below_drewN hbw _))))
          go_wp2
          go_ret2
          exact HL.out _ (below_drewN hbw _)
      · have hd1 : decide ((d : Int) < C) = false := decide_eq_false (by omega)
        obtain rfl : d = C := by omega
        have HGG := HG
        clear HG HVO HCV c0 HBAD
        go_wp2
        go_meet
        case rel => exact ⟨HGG.out, hbw⟩
  case rest =>
    obtain ⟨hgood, hbw⟩ := hcut
    obtain ⟨⟨h0, h8⟩, hn5, hrow, hstep, hfin⟩ := HGOOD.out hgood
    have HROW := Lib.hid hrow
    have HSTEP := Lib.hid hstep
    have HFIN := Lib.hid hfin
    have HCW : Hid (∀ d, d < C → w.cell? ⟨bb, off + d, none⟩ = some (.slice (A d) (L.getD 0 []).length (K d))) := Lib.hid fun d hd => by
      have := HCV.out d hd
      rwa [(hrow d hd).1] at this
    clear hgood HGOOD hrow hstep hfin HVO HCV HBAD
    generalize (L.getD 0 []).length = n at *
    go_wp2_with fail
    go_loopw [9, 10, 11, 12] (fun v i _ _ W => ∃ j : Nat, i = .int .i64 j ∧ j ≤ n ∧ W.ownsRow w.heap.size 3 1 v j (xsF (fun i => JF i C) j) ∧ Below w.heap.size w W) (fun _ i _ _ _ => n - (intOf i).toNat)
    case atStart =>
      exact ⟨0, rfl, Nat.zero_le _, World.ownsRow_made wc #[] 0 hbw.size (by decide) rfl, hbw.alloc hbw.size _⟩
    case round =>
      clear hbw
      obtain ⟨j, rfl, hj, hown, hbw⟩ := hrel
      have c00 : w.cell? ⟨bb, off, none⟩ = some (.slice (A 0) n (K 0)) := HCW.out 0 hC0
      have c0w := (hbw.cell (p := ⟨bb, off, none⟩) hlt).trans c00
      clear c00
      by_cases h1 : j < n
      · have hd1 : decide ((j : Int) < n) = true := decide_eq_true (by omega)
        have i3 : (0 : Int) ≤ (j : Int) := by omega
        have i4 : (j : Int) < (n : Int) := by omega
        have HOWN := Lib.hid hown
        have hz0 := HJ0.out j
        go_wp2_with fail
        go_loopw [11, 12] (fun s dd W => ∃ t : Nat, dd = .int .i64 t ∧ t ≤ C ∧ s = .int .i64 (JF j t) ∧ Hid (W.ownsRow w.heap.size 3 1 u9 j (xsF (fun i => JF i C) j)) ∧ Below w.heap.size w W) (fun _ dd _ => C - (intOf dd).toNat)
        case atStart => exact ⟨0, rfl, Nat.zero_le _, vint hz0.symm, HOWN, hbw⟩
        case round =>
          clear HOWN hown hbw c0w
          obtain ⟨t, rfl, ht, rfl, HOWN, hbw⟩ := hrel
          by_cases h2 : t < C
          · have hd2 : decide ((t : Int) < C) = true := decide_eq_true (by omega)
            have i1 : (0 : Int) ≤ (t : Int) := by omega
            have i2 : (t : Int) < (C : Int) := by omega
            have cd := (hbw.cell (p := ⟨bb, off + t, none⟩) hlt).trans (HCW.out t h2)
            obtain ⟨b2, off2, hA, hlt2, hc2⟩ := vec_some ((HROW.out t h2).2 _ hbw) (by omega)
            have ce := hc2 j h1
            rw [hA] at cd
            have hS := HSTEP.out j t
            have HP := Lib.hid (fun W => sPower f b t W)
            clear hc2 hA
            generalize lf (L.getD t []) j = x at *
            generalize mPower f b t = y at *
            generalize JF j t = z at *
            generalize hJn : JF j (t + 1) = z2 at *
            go_wp2_with fail
            go_quiet ((first | (go_at_call 41; exact quiet_left (HP.out _)) | (go_at_call 40; exact quiet_left (sMul f x y _)) | (go_at_call 39; exact quiet_left (sAdd f z (mMul f x y) _))))
            go_wp2
            go_roundw
            case rel => exact ⟨t + 1, by go_num, by omega, vint (by rw [hS, hJn]), by first | exact HOWN | exact Lib.hid HOWN.out, by first | exact hbw | exact below_drewN hbw _⟩
            case measure => simp [intOf]; omega
          · have hd2 : decide ((t : Int) < C) = false := decide_eq_false (by omega)
            obtain rfl : t = C := by omega
            have hown := HOWN.out
            have hsz := hbw.size
            have HX := Lib.hid (xsF_succ (fun i => JF i t) j)
            generalize hz : JF j t = z at *
            go_wp2_with (at_builtin; refine wpList_append_own _ rfl _ _ 24 rfl w.heap.size 3 i0 (.int .i64 0) 1 8 Tryd.underlying24 HI.out HZ0.out HZ1.out HZ2.out rfl (by decide) _ _ _ rfl (hown.alloc _) ⟨wr.heap.size, 0, none⟩ 1 1 [.int .i64 z] rfl rfl ?c1 ?c2 ?c3 ?c4 ?c5 ?_)
            case c1 => exact cell_one_new _ _ _
            case c2 => first | rfl | (intro u hu; simp at hu; subst hu; rfl)
            case c3 => unfold maxLen; omega
            case c4 => omega
            case c5 => first | omega | (simp; omega)
            intro v' w2 hown' hgrow _
            rw [HX.out] at hown'
            have HO2 := Lib.hid hown'
            have HB2 : Below w.heap.size w w2 := (hbw.alloc hsz _).grown hgrow (by simp; omega) (own_ge hown)
            clear hgrow hown hown' HOWN HX hbw
            go_wp2
            go_roundw
            case rel => exact ⟨j + 1, by go_num, by omega, HO2.out, HB2⟩
            case measure => simp [intOf]; omega
      · have hd1 : decide ((j : Int) < n) = false := decide_eq_false (by omega)
        obtain rfl : j = n := by omega
        have HL := Lib.hid (HFIN.out _ _ hown hbw)
        clear hown HFIN hbw
        go_wp2
        go_ret2
        exact HL.out
theorem sRejoin (f : Int) (a : Option Addr) (L : List (List Int)) (cap : Nat) (b : Int) (w : World) (hs : SrcSS w a L) (hl : ∀ d, (L.getD d []).length ≤ 1048576) :
    Calls Tryd.prog 14 #[.int .i64 f, .slice a L.length cap, .int .i64 b] w (ListLB w (mRejoin0 f L b) (mRejoin1 f L b)) := by
  by_cases h : ¬ P f = 0 ∧ (2 ≤ b ∧ b ≤ 65536) ∧ 1 ≤ L.length ∧ L.length ≤ 32
  · exact sRejoin_at f b a L cap w hs hl h.1 h.2.1 h.2.2
  · have hn : ¬ okJoin f L b := fun h2 => h ⟨fun h0 => by
      have h08 := (h2.2.2 0 (by have := h2.2.1; omega)).1.f08
      have := P_bd h08.1 h08.2
      omega, h2.1, h2.2.1⟩
    rw [show mRejoin0 f L b = [] by unfold mRejoin0; rw [if_neg hn], show mRejoin1 f L b = false by simp only [mRejoin1, decide_eq_false_iff_not]; exact hn]
    exact sRejoin_none f b a L.length cap w (by
      by_cases h0 : P f = 0
      · exact .inl h0
      · by_cases hb : 2 ≤ b ∧ b ≤ 65536
        · exact .inr (.inr ⟨h0, hb, fun hc => h ⟨h0, hb, hc⟩⟩)
        · exact .inr (.inl ⟨h0, hb⟩))
end Go.Proofs.YtfocdlkophdfoaaDoor
namespace Go.Proofs.YtfocdlkophdfoaaDoor
open Go.RowKit
/-- How many elements the first d rows have. -/
def sumLen (L : List (List Int)) : Nat → Nat
  | 0 => 0
  | d + 1 => sumLen L d + (L.getD d []).length
theorem sumLen_mono (L : List (List Int)) {d e : Nat} (h : d ≤ e) : sumLen L d ≤ sumLen L e := by
  induction e with
  | zero => have : d = 0 := by omega
            rw [this]; exact Nat.le_refl _
  | succ e ih =>
    by_cases h2 : d = e + 1
    · rw [h2]; exact Nat.le_refl _
    · exact Nat.le_trans (ih (by omega)) (Nat.le_add_right _ _)
/-- What the laws take: at most 2^20 rows and elements. -/
def FitsSS (L : List (List Int)) : Prop := L.length + sumLen L L.length ≤ 1048576
theorem FitsSS.row {L : List (List Int)} (h : FitsSS L) (d : Nat) : (L.getD d []).length ≤ 1048576 := by
  unfold FitsSS at h
  by_cases hd : d < L.length
  · have := sumLen_mono L (show d + 1 ≤ L.length by omega)
    have e : sumLen L (d + 1) = sumLen L d + (L.getD d []).length := rfl
    omega
  · rw [List.getD_eq_getElem?_getD, List.getElem?_eq_none (by omega)]; simp
theorem szIntS_c (a : Option Addr) (n cap : Nat) (k : Int) (w : World) (hn : n ≤ 9223372036854775807) (k0 : 0 ≤ k) (k1 : k ≤ 1048576) : Calls Tryd.prog 38 #[.slice a n cap, .int .i64 k] w fun e w' => e = .returned (.int .i64 (if k < (n : Int) then -1 else k - n)) ∧ w = w' := by
  have q : IntKind.i64.wrap (k - (n : Int)) = k - (n : Int) := IntWalk.i64_in _ (by omega)
  by_cases h : k < (n : Int)
  · have d : decide (k - (n : Int) < 0) = true := decide_eq_true (by omega)
    rw [if_pos h]
    go_enter Tryd.func38, Tryd.ntmps38
    go_wp2
    go_ret
    exact ⟨rfl, rfl⟩
  · have d : decide (k - (n : Int) < 0) = false := decide_eq_false (by omega)
    rw [if_neg h]
    go_enter Tryd.func38, Tryd.ntmps38
    go_wp2
    go_ret
    exact ⟨rfl, rfl⟩
set_option maxHeartbeats 1600000 in
theorem szIntSS_c (a : Option Addr) (L : List (List Int)) (cap : Nat) (w : World) (hs : SrcSS w a L) (hC : L.length ≤ 9223372036854775807) (hl : ∀ d, (L.getD d []).length ≤ 9223372036854775807) :
    Calls Tryd.prog 13 #[.slice a L.length cap, .int .i64 1048576] w fun e w' => w = w' ∧ ∃ r : Int, e = .returned (.int .i64 r) ∧ (0 ≤ r → FitsSS L) := by
  have q : IntKind.i64.wrap (1048576 - (L.length : Int)) = 1048576 - (L.length : Int) := IntWalk.i64_in _ (by omega)
  by_cases h : 1048576 < L.length
  · have d : decide ((1048576 : Int) - (L.length : Int) < 0) = true := decide_eq_true (by omega)
    clear hs hl hC
    generalize hCC : L.length = C at *
    go_enter Tryd.func13, Tryd.ntmps13
    go_wp2
    go_ret
    exact ⟨rfl, -1, rfl, fun h => absurd h (by omega)⟩
  have d : decide ((1048576 : Int) - (L.length : Int) < 0) = false := decide_eq_false (by omega)
  have HF : Hid (∀ k : Int, k = 1048576 - (L.length : Int) - (sumLen L L.length : Nat) → 0 ≤ k → FitsSS L) := Lib.hid fun k hk h0 => by unfold FitsSS; omega
  have HS0 : Hid (sumLen L 0 = 0) := Lib.hid rfl
  have HSS : Hid (∀ t, sumLen L (t + 1) = sumLen L t + (L.getD t []).length) := Lib.hid fun t => rfl
  have HL := Lib.hid hl
  have HR : Hid (∀ t, t < L.length → ∃ b off a' c', a = some ⟨b, off, none⟩ ∧ w.cell? ⟨b, off + t, none⟩ = some (.slice a' (L.getD t []).length c')) := Lib.hid fun t ht => by
    rcases hs with h0 | ⟨b, off, rfl, hlt, hc⟩
    · omega
    · obtain ⟨a', c', h1, _⟩ := hc t ht
      exact ⟨b, off, a', c', rfl, h1⟩
  clear hs hl hC
  obtain ⟨C, hCC⟩ : ∃ C, L.length = C := ⟨_, rfl⟩
  simp only [hCC] at *
  have HCC := Lib.hid hCC
  clear hCC
  go_enter Tryd.func13, Tryd.ntmps13
  go_wp2_with fail
  go_loopw [1, 5] (fun k i wr => ∃ (t : Nat) (K : Int), i = .int .i64 t ∧ t ≤ C ∧ k = .int .i64 K ∧ K = 1048576 - (C : Int) - (sumLen L t : Nat) ∧ 0 ≤ K ∧ w = wr) (fun _ i _ => C - (intOf i).toNat)
  case atStart => exact ⟨0, _, rfl, Nat.zero_le _, rfl, by rw [HS0.out]; simp, by omega, rfl⟩
  case round =>
    obtain ⟨t, K, rfl, ht, rfl, hK, hK0, rfl⟩ := hrel
    by_cases h1 : t < C
    · have hd1 : decide ((t : Int) < C) = true := decide_eq_true (by omega)
      have i1 : (0 : Int) ≤ (t : Int) := by omega
      have i2 : (t : Int) < (C : Int) := by omega
      obtain ⟨b, off, a', c', rfl, cc⟩ := HR.out t h1
      have hlt := HL.out t
      have hst := HSS.out t
      have HSZ := Lib.hid (szIntS_c a' (L.getD t []).length c' K w hlt hK0 (by omega))
      generalize (L.getD t []).length = n at *
      by_cases h2 : K < (n : Int)
      · have dd : decide ((-1 : Int) < 0) = true := rfl
        rw [if_pos h2] at HSZ
        clear hK
        go_wp2_with fail
        refine HSZ.out.mono ?_
        rintro e w' ⟨rfl, rfl⟩
        go_wp2
        go_ret
        exact ⟨rfl, -1, rfl, fun h => absurd h (by omega)⟩
      · have dd : decide (K - (n : Int) < 0) = false := decide_eq_false (by omega)
        rw [if_neg h2] at HSZ
        have hK2 : Hid (K - (n : Int) = 1048576 - (C : Int) - (sumLen L (t + 1) : Nat)) := Lib.hid (by omega)
        have hK3 : Hid (0 ≤ K - (n : Int)) := Lib.hid (by omega)
        clear hK hst
        go_wp2_with fail
        refine HSZ.out.mono ?_
        rintro e w' ⟨rfl, rfl⟩
        go_wp2
        go_roundw
        case rel => exact ⟨t + 1, K - n, by go_num, by omega, rfl, hK2.out, hK3.out, by trivial⟩
        case measure => simp [intOf]; omega
    · have hd1 : decide ((t : Int) < C) = false := decide_eq_false (by omega)
      obtain rfl : t = C := by omega
      have hfit := Lib.hid (HF.out K hK hK0)
      clear hK HF
      go_wp2
      go_ret
      exact ⟨rfl, K, rfl, fun _ => hfit.out⟩
/-- The spine g with the first d rows copied. -/
def LaidS (W : World) (B g C d : Nat) (L : List (List Int)) : Prop := ∃ gs : Nat → Nat, W.rowIs g 24 C (fun t => if t < d then .slice (some ⟨gs t, 0, none⟩) (L.getD t []).length (L.getD t []).length else .slice none 0 0) ∧
  (∀ t, t < d → B ≤ gs t ∧ gs t ≠ g ∧ Own W (gs t) (L.getD t []).length (lf (L.getD t []))) ∧ ∀ t t', t < d → t' < d → t ≠ t' → gs t ≠ gs t'
theorem LaidS.add {W W2 : World} {B g gp C d : Nat} {L : List (List Int)} (h : LaidS W B g C d L) (hd : d < C) (hB : B ≤ W.heap.size) (hb : Below W.heap.size W W2) (hgp : W.heap.size ≤ gp) (ho : Own W2 gp (L.getD d []).length (lf (L.getD d []))) :
    LaidS (W2.setCell ⟨g, d, none⟩ (.slice (some ⟨gp, 0, none⟩) (L.getD d []).length (L.getD d []).length)) B g C (d + 1) L := by
  obtain ⟨gs, h1, h2, h3⟩ := h
  have hgl := h1.lt
  have r2 := World.rowIs.of_block h1 (hb.block g hgl)
  have r3 := World.rowIs.set r2 d (.slice (some ⟨gp, 0, none⟩) (L.getD d []).length (L.getD d []).length)
  refine ⟨fun t => if t = d then gp else gs t, World.rowIs.congr r3 fun t ht => ?_, fun t ht => ?_, fun t t' ht ht' hne => ?_⟩
  · by_cases e : t = d
    · subst e
      simp
    · rw [if_neg e]
      show _ = if t < d + 1 then Value.slice (some ⟨if t = d then gp else gs t, 0, none⟩) _ _ else _
      rw [if_neg e]
      by_cases e2 : t < d
      · rw [if_pos e2, if_pos (by omega)]
      · rw [if_neg e2, if_neg (by omega)]
  · by_cases e : t = d
    · subst e
      simp only [if_true]
      exact ⟨by omega, by omega, own_other ho (by omega)⟩
    · simp only [if_neg e]
      obtain ⟨a1, a2, a3⟩ := h2 t (by omega)
      exact ⟨a1, a2, own_other (World.rowIs.of_block a3 (hb.block _ a3.lt)) a2⟩
  · have q := fun t h => (h2 t h).2.2.lt
    show (if t = d then gp else gs t) ≠ (if t' = d then gp else gs t')
    by_cases e1 : t = d
    · rw [if_pos e1, if_neg (by omega)]
      have := q t' (by omega)
      omega
    · rw [if_neg e1]
      by_cases e2 : t' = d
      · rw [if_pos e2]
        have := q t (by omega)
        omega
      · rw [if_neg e2]
        exact h3 t t' (by omega) (by omega) hne
def OwnSSP (w : World) (L : List (List Int)) (e : Ending) (w' : World) : Prop := ∃ g, e = .returned (.slice (some ⟨g, 0, none⟩) L.length L.length) ∧ w.heap.size ≤ g ∧ LaidS w' w.heap.size g L.length L.length L ∧ Below w.heap.size w w'
set_option maxHeartbeats 1600000 in
theorem toIntSS_c (a : Option Addr) (L : List (List Int)) (cap : Nat) (w : World) (hs : SrcSS w a L) (hf : FitsSS L) : Calls Tryd.prog 15 #[.slice a L.length cap] w (OwnSSP w L) := by
  have hC : L.length ≤ 1048576 := by unfold FitsSS at hf; omega
  have hmk := run_make_row' (P := Tryd.prog) 27 24 (.slice none 0 0) 24 Tryd.underlying27 info22 rfl .i64 .i64 L.length (by omega) (by omega)
  have HL0 : Hid (LaidS (w.alloc (.cells (madeCells #[.slice none 0 0] L.length) 24)) w.heap.size w.heap.size L.length 0 L) := Lib.hid ⟨fun _ => 0, World.rowIs.congr (World.rowIs_made w (.slice none 0 0) L.length 24) fun t _ => by simp, fun t ht => absurd ht (by omega), fun t _ ht => absurd ht (by omega)⟩
  have HR : Hid (∀ t, t < L.length → ∃ b off a' c', a = some ⟨b, off, none⟩ ∧ b < w.heap.size ∧ w.cell? ⟨b, off + t, none⟩ = some (.slice a' (L.getD t []).length c') ∧ ∀ W, Below w.heap.size w W → Calls Tryd.prog 42 #[.slice a' (L.getD t []).length c'] W (CopyP W (L.getD t []).length (lf (L.getD t [])))) := Lib.hid fun t ht => by
    rcases hs with h0 | ⟨b, off, rfl, hlt, hc⟩
    · omega
    · obtain ⟨a', c', h1, h2⟩ := hc t ht
      exact ⟨b, off, a', c', rfl, hlt, h1, fun W hW => toInt_c a' _ c' _ W (hf.row t) (h2.keep hW)⟩
  have HF : Hid (∀ W g, LaidS W w.heap.size g L.length L.length L → w.heap.size ≤ g → Below w.heap.size w W → OwnSSP w L (.returned (.slice (some ⟨g, 0, none⟩) L.length L.length)) W) := Lib.hid fun W g h1 h2 h3 => ⟨g, rfl, h2, h1, h3⟩
  clear hs hf
  obtain ⟨C, hCC⟩ : ∃ C, L.length = C := ⟨_, rfl⟩
  simp only [hCC] at *
  clear hCC
  go_enter Tryd.func15, Tryd.ntmps15
  go_wp2_with fail
  go_loopw [4] (fun i wr => ∃ d : Nat, i = .int .i64 d ∧ d ≤ C ∧ Hid (LaidS wr w.heap.size w.heap.size C d L) ∧ Below w.heap.size w wr) (fun i _ => C - (intOf i).toNat)
  case atStart => exact ⟨0, rfl, Nat.zero_le _, HL0, (Below.refl _ _).alloc (Nat.le_refl _) _⟩
  case round =>
    clear HL0 hmk
    obtain ⟨d, rfl, hd, HL, hb⟩ := hrel
    by_cases h1 : d < C
    · have hd1 : decide ((d : Int) < C) = true := decide_eq_true (by omega)
      have i1 : (0 : Int) ≤ (d : Int) := by omega
      have i2 : (d : Int) < (C : Int) := by omega
      obtain ⟨b, off, a', c', rfl, hlt, cc, hcall⟩ := HR.out d h1
      have ccw := (hb.cell (p := ⟨b, off + d, none⟩) hlt).trans cc
      have HT := Lib.hid (hcall wr hb)
      have HADD : Hid (∀ W2 gp, Below wr.heap.size wr W2 → wr.heap.size ≤ gp → Own W2 gp (L.getD d []).length (lf (L.getD d [])) → LaidS (W2.setCell ⟨w.heap.size, d, none⟩ (.slice (some ⟨gp, 0, none⟩) (L.getD d []).length (L.getD d []).length)) w.heap.size w.heap.size C (d + 1) L) := Lib.hid fun W2 gp q1 q2 q3 => HL.out.add h1 hb.size q1 q2 q3
      have HFZ : Hid (∀ W2, Below wr.heap.size wr W2 → W2.frozen? ⟨w.heap.size, d, none⟩ = false ∧ ∃ v, W2.cell? ⟨w.heap.size, d, none⟩ = some v) := Lib.hid fun W2 q => by
        obtain ⟨gs, r1, _, _⟩ := HL.out
        have r2 := World.rowIs.of_block r1 (q.block _ r1.lt)
        exact ⟨World.rowIs.frozen r2 d, _, World.rowIs.cell r2 h1⟩
      have hsz := hb.size
      clear cc hcall HL
      generalize (L.getD d []).length = n at *
      go_wp2_with fail
      refine HT.out.mono ?_
      rintro e w2 ⟨rfl, ho, hb2⟩
      have hb3 := below_up hb hb2 hb.size
      have HN := Lib.hid (HADD.out w2 _ hb2 (Nat.le_refl _) ho)
      obtain ⟨fz, v0, cv⟩ := HFZ.out w2 hb2
      have HB4 := hb3.setCell (p := ⟨w.heap.size, d, none⟩) (Nat.le_refl _) (.slice (some ⟨wr.heap.size, 0, none⟩) n n)
      clear ho hb2 hb3 hb HADD HFZ HT
      go_wp2
      go_roundw
      case rel => exact ⟨d + 1, by go_num, by omega, HN, HB4⟩
      case measure => simp [intOf]; omega
    · have hd1 : decide ((d : Int) < C) = false := decide_eq_false (by omega)
      obtain rfl : d = C := by omega
      have HE := Lib.hid (HF.out _ _ HL.out (Nat.le_refl _) hb)
      clear HL HF HR hb
      go_wp2
      go_ret
      exact HE.out
end Go.Proofs.YtfocdlkophdfoaaDoor
namespace Go.Proofs.YtfocdlkophdfoaaDoor
open Go.RowKit
theorem LaidS.src {W : World} {B g C : Nat} {L : List (List Int)} (h : LaidS W B g C C L) (hC : L.length = C) : SrcSS W (some ⟨g, 0, none⟩) L := by
  obtain ⟨gs, h1, h2, _⟩ := h
  refine .inr ⟨g, 0, rfl, h1.lt, fun d hd => ⟨some ⟨gs d, 0, none⟩, (L.getD d []).length, ?_, (h2 d (by omega)).2.2.src⟩⟩
  have := World.rowIs.cell h1 (show d < C by omega)
  rw [if_pos (by omega)] at this
  rw [Nat.zero_add]
  exact this
theorem LaidS.keep {W W' : World} {B g C d : Nat} {L : List (List Int)} (h : LaidS W B g C d L) (hb : Below W.heap.size W W') : LaidS W' B g C d L := by
  obtain ⟨gs, h1, h2, h3⟩ := h
  exact ⟨gs, World.rowIs.of_block h1 (hb.block g h1.lt), fun t ht => ⟨(h2 t ht).1, (h2 t ht).2.1, World.rowIs.of_block (h2 t ht).2.2 (hb.block _ (h2 t ht).2.2.lt)⟩, h3⟩
set_option maxHeartbeats 1600000 in
theorem eqL_some (b off b2 off2 cap cap2 : Nat) (L : List (List Int)) (w : World) (hf : FitsSS L) (hlt : b < w.heap.size) (hlt2 : b2 < w.heap.size)
    (hc : ∀ d, d < L.length → ∃ a' c', w.cell? ⟨b, off + d, none⟩ = some (.slice a' (L.getD d []).length c') ∧ Src w a' (L.getD d []).length (lf (L.getD d []))) (hc2 : ∀ d, d < L.length → ∃ a' c', w.cell? ⟨b2, off2 + d, none⟩ = some (.slice a' (L.getD d []).length c') ∧ Src w a' (L.getD d []).length (lf (L.getD d []))) :
    Calls Tryd.prog 17 #[.slice (some ⟨b, off, none⟩) L.length cap, .slice (some ⟨b2, off2, none⟩) L.length cap2] w (TrueP w) := by
  have HC := Lib.hid hc
  have HC2 := Lib.hid hc2
  have hC : L.length ≤ 1048576 := by unfold FitsSS at hf; omega
  have HFR := Lib.hid hf.row
  clear hc hc2 hf
  obtain ⟨C, hCC⟩ : ∃ C, L.length = C := ⟨_, rfl⟩
  simp only [hCC] at *
  clear hCC
  go_enter Tryd.func17, Tryd.ntmps17
  go_wp2_with fail
  go_loopw [5] (fun i wr => ∃ d : Nat, i = .int .i64 d ∧ d ≤ C ∧ Below w.heap.size w wr) (fun i _ => C - (intOf i).toNat)
  case atStart => exact ⟨0, rfl, Nat.zero_le _, Below.refl _ _⟩
  case round =>
    obtain ⟨d, rfl, hd, hb⟩ := hrel
    by_cases h1 : d < C
    · have hd1 : decide ((d : Int) < C) = true := decide_eq_true (by omega)
      obtain ⟨a1, k1, e1, s1⟩ := HC.out d h1
      obtain ⟨a2, k2, e2, s2⟩ := HC2.out d h1
      have hn := HFR.out d
      have HS1 := Lib.hid s1
      have HS2 := Lib.hid s2
      clear s1 s2
      generalize lf (L.getD d []) = DG at *
      generalize (L.getD d []).length = n at *
      have c1 : wr.cell? ⟨b, off + d, none⟩ = some (.slice a1 n k1) := (hb.cell (p := ⟨b, off + d, none⟩) hlt).trans e1
      have c2 : wr.cell? ⟨b2, off2 + d, none⟩ = some (.slice a2 n k2) := (hb.cell (p := ⟨b2, off2 + d, none⟩) hlt2).trans e2
      have KS : Hid (∀ W, Below w.heap.size w W → W.cell? ⟨b, off + d, none⟩ = some (.slice a1 n k1) ∧ W.cell? ⟨b2, off2 + d, none⟩ = some (.slice a2 n k2) ∧ Below w.heap.size w W) := Lib.hid fun W hW => ⟨(hW.cell (p := ⟨b, off + d, none⟩) hlt).trans e1, (hW.cell (p := ⟨b2, off2 + d, none⟩) hlt2).trans e2, hW⟩
      have HEQ : Hid (∀ W, Below w.heap.size w W → Calls Tryd.prog 16 #[.slice a1 n k1, .slice a2 n k2] W (TrueP W)) := Lib.hid fun W hW => eq_c a1 a2 n k1 k2 DG W hn (HS1.out.keep hW) (HS2.out.keep hW)
      have i1 : (0 : Int) ≤ (d : Int) := by omega
      have i2 : (d : Int) < (C : Int) := by omega
      clear e1 e2
      go_wp2_with fail
      go_region_held3 (fun W => W.cell? ⟨b, off + d, none⟩ = some (.slice a1 n k1) ∧ W.cell? ⟨b2, off2 + d, none⟩ = some (.slice a2 n k2) ∧ Below w.heap.size w W)
        (first
          | exact KS.out _ hb.drew
          | exact KS.out _ hb
          | exact KS.out _ hB4
          | go_keep)
        (first
          | (go_at_call 16; obtain ⟨_, _, hX⟩ : _ ∧ _ ∧ Below w.heap.size w _ := (by assumption); refine (HEQ.out _ hX).mono ?_; rintro e w4 ⟨rfl, hB3⟩; have hB4 := below_up hX hB3 hX.size; clear hX hB3))
      all_goals
        go_wp2
        go_roundw
        case rel => exact ⟨d + 1, by go_num, by omega, by first | exact hB4 | exact hB4.drew⟩
        case measure => simp [intOf]; omega
    · have hd1 : decide ((d : Int) < C) = false := decide_eq_false (by omega)
      clear HC HC2
      go_wp2
      go_ret
      exact ⟨rfl, hb⟩
theorem eqL (a a2 : Option Addr) (L : List (List Int)) (cap cap2 : Nat) (w : World) (hf : FitsSS L) (hs : SrcSS w a L) (hs2 : SrcSS w a2 L) : Calls Tryd.prog 17 #[.slice a L.length cap, .slice a2 L.length cap2] w (TrueP w) := by
  have h0 : L.length = 0 → Calls Tryd.prog 17 #[.slice a L.length cap, .slice a2 L.length cap2] w (TrueP w) := fun h => by
    rw [h]
    clear hf hs hs2 h
    go_enter Tryd.func17, Tryd.ntmps17
    go_wp2
    refine wp_loop_rounds 1 ?_
    rw [rounds_succ]
    go_wp2
    go_ret
    exact ⟨rfl, Below.refl _ _⟩
  rcases hs with h | ⟨b, off, rfl, hlt, hc⟩
  · exact h0 h
  · rcases hs2 with h | ⟨b2, off2, rfl, hlt2, hc2⟩
    · exact h0 h
    · exact eqL_some b off b2 off2 cap cap2 L w hf hlt hlt2 hc hc2
/-- Nothing below B0 has turned, and nothing from B1 on. -/
def Tween (B0 B1 : Nat) (W W' : World) : Prop := (W'.os = W.os ∧ W'.tape = W.tape ∧ W'.output = W.output) ∧ W.heap.size ≤ W'.heap.size ∧ ∀ i, i < W.heap.size → (i < B0 ∨ B1 ≤ i) → W'.heap[i]? = W.heap[i]?
theorem Tween.refl (B0 B1 : Nat) (W : World) : Tween B0 B1 W W := ⟨⟨rfl, rfl, rfl⟩, Nat.le_refl _, fun _ _ _ => rfl⟩
theorem Tween.grown {B0 B1 g : Nat} {W W1 W2 : World} (h : Tween B0 B1 W W1) (hg : W1.grownBy W2 (some g)) (h0 : B0 ≤ g) (h1 : g < B1) : Tween B0 B1 W W2 :=
  ⟨⟨hg.os.trans h.1.1, hg.tape.trans h.1.2.1, hg.output.trans h.1.2.2⟩, Nat.le_trans h.2.1 hg.size, fun i hi hb => (hg.block i (Nat.lt_of_lt_of_le hi h.2.1) (fun e => by injection e with e; omega)).trans (h.2.2 i hi hb)⟩
theorem Tween.below {u W W' : World} {B0 B1 : Nat} (h : Tween B0 B1 W W') (hb : Below B0 u W) (hB : B0 ≤ W.heap.size) : Below B0 u W' :=
  hb.trans ⟨h.1.1, h.1.2.1, h.1.2.2, h.2.1, fun i hi => h.2.2 i (by omega) (.inl hi)⟩
theorem Tween.own {W W' : World} {B0 B1 B cap : Nat} {a : Option Addr} {l : List Int} (h : Tween B0 B1 W W') (ho : OwnA W B a l cap) (hB : B1 ≤ B) : OwnA W' B a l cap := by
  rcases ho with ho | ⟨g, rfl, h2, h3, h4⟩
  · exact .inl ho
  · exact .inr ⟨g, rfl, h2, h3, World.rowIs.of_block h4 (h.2.2 g h4.lt (.inr (by omega)))⟩
theorem Tween.src {W W' u : World} {B0 B1 n : Nat} {a : Option Addr} {F : Nat → Int} (h : Tween B0 B1 W W') (hb : Below B0 u W) (hB : B0 ≤ W.heap.size) (hu : B0 = u.heap.size) (hs : Src u a n F) : Src W' a n F :=
  hs.keep (hu ▸ h.below hb hB)
/-- A spine with rows of its own, whatever they hold. -/
def RowsW (W : World) (B0 B1 g C : Nat) (gs : Nat → Nat) (L : List (List Int)) : Prop := W.rowIs g 24 C (fun t => .slice (some ⟨gs t, 0, none⟩) (L.getD t []).length (L.getD t []).length) ∧ ∀ t, t < C → B0 ≤ gs t ∧ gs t < B1 ∧ gs t ≠ g ∧ ∃ F, Own W (gs t) (L.getD t []).length F
theorem RowsW.keep {W W' : World} {B0 B1 g C : Nat} {gs : Nat → Nat} {L : List (List Int)} (h : RowsW W B0 B1 g C gs L) (hb : Below W.heap.size W W') : RowsW W' B0 B1 g C gs L :=
  ⟨World.rowIs.of_block h.1 (hb.block g h.1.lt), fun t ht => by
    obtain ⟨a1, a2, a3, F, a4⟩ := h.2 t ht
    exact ⟨a1, a2, a3, F, World.rowIs.of_block a4 (hb.block _ a4.lt)⟩⟩
theorem RowsW.mark {W W' : World} {B0 B1 g C t : Nat} {gs : Nat → Nat} {L : List (List Int)} {F : Nat → Int} (h : RowsW W B0 B1 g C gs L) (ht : t < C) (hg : W.grownBy W' (some (gs t))) (ho : Own W' (gs t) (L.getD t []).length F) (hrow : ∀ s, s < C → gs s = gs t → s = t) : RowsW W' B0 B1 g C gs L := by
  refine ⟨World.rowIs.of_block h.1 (hg.block g h.1.lt (fun e => by injection e with e; exact (h.2 t ht).2.2.1 e.symm)), fun s hs => ?_⟩
  obtain ⟨a1, a2, a3, F', a4⟩ := h.2 s hs
  by_cases e : gs s = gs t
  · obtain rfl := hrow s hs e
    exact ⟨a1, a2, a3, F, ho⟩
  · exact ⟨a1, a2, a3, F', World.rowIs.of_block a4 (hg.block _ a4.lt (fun e2 => by injection e2 with e2; exact e e2))⟩
set_option maxHeartbeats 1600000 in
theorem markL (B0 B1 g : Nat) (gs : Nat → Nat) (L : List (List Int)) (w : World) (hf : FitsSS L) (h : RowsW w B0 B1 g L.length gs L) (hinj : ∀ s t, s < L.length → t < L.length → gs s = gs t → s = t) :
    Calls Tryd.prog 18 #[.slice (some ⟨g, 0, none⟩) L.length L.length, .int .i64 1] w fun e w' => ∃ k : Int, e = .returned (.int .i64 k) ∧ 0 ≤ k ∧ Tween B0 B1 w w' := by
  have H := Lib.hid h
  have hC : L.length + sumLen L L.length ≤ 1048576 := hf
  have HFR := Lib.hid hf.row
  have HM : Hid (∀ t, t < L.length → sumLen L (t + 1) ≤ sumLen L L.length) := Lib.hid fun t ht => sumLen_mono L ht
  have HSS : Hid (∀ t, sumLen L (t + 1) = sumLen L t + (L.getD t []).length) := Lib.hid fun t => rfl
  have HI := Lib.hid hinj
  clear h hf hinj
  obtain ⟨C, hCC⟩ : ∃ C, L.length = C := ⟨_, rfl⟩
  simp only [hCC] at *
  clear hCC
  obtain ⟨S, hS⟩ : ∃ S, sumLen L C = S := ⟨_, rfl⟩
  simp only [hS] at *
  clear hS
  go_enter Tryd.func18, Tryd.ntmps18
  go_wp2_with fail
  go_loopw [1, 5] (fun u i wr => ∃ d KM : Nat, i = .int .i64 d ∧ u = .int .i64 (1 + (KM : Int)) ∧ KM = sumLen L d ∧ d ≤ C ∧ Hid (RowsW wr B0 B1 g C gs L) ∧ Tween B0 B1 w wr) (fun _ i _ => C - (intOf i).toNat)
  case atStart => exact ⟨0, 0, rfl, by simp, rfl, Nat.zero_le _, H, Tween.refl _ _ _⟩
  case round =>
    clear H
    obtain ⟨d, KM, rfl, rfl, hKM, hd, H, htw⟩ := hrel
    by_cases h1 : d < C
    · have hd1 : decide ((d : Int) < C) = true := decide_eq_true (by omega)
      have i1 : (0 : Int) ≤ (d : Int) := by omega
      have i2 : (d : Int) < (C : Int) := by omega
      obtain ⟨q1, q2⟩ := H.out
      have c1 := World.rowIs.cell q1 h1
      obtain ⟨z1, z2, z3, F, z4⟩ := q2 d h1
      have hm := HM.out d h1
      have hs := HSS.out d
      have hr := HFR.out d
      rw [← hKM] at hs
      have HMK := Lib.hid (mark_c (gs d) (L.getD d []).length (L.getD d []).length F (1 + (KM : Int)) wr hr (by omega) (by omega) z4)
      have HUP : Hid (∀ w2 F2, wr.grownBy w2 (some (gs d)) → Own w2 (gs d) (L.getD d []).length F2 → RowsW w2 B0 B1 g C gs L) := Lib.hid fun w2 F2 r1 r2 => H.out.mark h1 r1 r2 fun s hs e => HI.out s d hs h1 e
      have HK2 : Hid (KM + (L.getD d []).length = sumLen L (d + 1)) := Lib.hid (by omega)
      clear q1 q2 z4 hKM hs
      generalize (L.getD d []).length = n at *
      go_wp2_with fail
      refine HMK.out.mono ?_
      rintro e w2 ⟨rfl, hO, hG⟩
      have HR := Lib.hid (HUP.out w2 _ hG hO)
      have ht2 := htw.grown hG z1 z2
      clear HMK H hO hG htw HUP
      go_wp2
      go_roundw
      case rel => exact ⟨d + 1, KM + n, by go_num, vint (by omega), HK2.out, by omega, HR, ht2⟩
      case measure => simp [intOf]; omega
    · have hd1 : decide ((d : Int) < C) = false := decide_eq_false (by omega)
      clear H hKM
      go_wp2
      go_ret
      exact ⟨1 + (KM : Int), rfl, by omega, htw⟩
/-- The argument of a law: a list of lists. -/
theorem rows_of {H : Type} {enc : TypeId × Value → H} {W : World} {held : Bool} {fuel : Nat} {a : Option Addr} {len cap : Nat} {x : DataW H × List MemPlace} (h : DataW.trod enc Tryd.prog W 0 (fun _ => true) held fuel 27 [.slice a len cap] = some x) :
    ∃ L : List (List Int), L.length = len ∧ SrcSS W a L ∧ len ≤ maxLen ∧ ∀ d, (L.getD d []).length ≤ maxLen := by
  rcases DataW.trod_slice Tryd.underlying27 h with ⟨hcs, _⟩ | ⟨x0, l, c, elems, rest, n, _, hcs, _, hb, hl, hm, hlen, hel, _, _⟩
  · simp only [List.cons.injEq, Value.slice.injEq, and_true] at hcs
    obtain ⟨rfl, rfl, rfl⟩ := hcs
    exact ⟨[], rfl, .inl rfl, Nat.zero_le _, fun d => by simp⟩
  · simp only [List.cons.injEq, Value.slice.injEq, and_true] at hcs
    obtain ⟨rfl, rfl, rfl⟩ := hcs
    have hrow : ∀ i, i < len → ∃ (l' : List Int) (a' : Option Addr) (c' : Nat), W.cell? (x0.add i) = some (.slice a' l'.length c') ∧ Src W a' l'.length (lf l') ∧ l'.length ≤ maxLen := fun i hi => by
      have h1 := hel i hi
      rw [show elems[i]? = some (elems[i]'(by omega)) from List.getElem?_eq_getElem (by omega), show Tryd.prog.cellsOf 24 = 1 from by kernel_rfl, Nat.mul_one, Option.bind_eq_some_iff] at h1
      obtain ⟨cs', hcs, hy⟩ := h1
      rcases Go.ChangeShapes.open_ints Tryd.underlying24 Tryd.underlying3 (by kernel_rfl) hy with ⟨rfl, _⟩ | ⟨y, l2, c2, zs, rfl, _, hl2, hm2, hz2, _, hcell, hwz⟩
      · exact ⟨[], none, 0, Go.ChangeShapes.cell_of_cells?_one hcs, .inl rfl, Nat.zero_le _⟩
      · have hI : IsRow .i64 W (some y) l2 c2 zs := .inr ⟨y, rfl, hl2, hm2, by simpa using hz2, hcell, hwz⟩
        obtain ⟨l', hl', hs'⟩ := row_list hI
        exact ⟨l', some y, c2, by rw [hl']; exact Go.ChangeShapes.cell_of_cells?_one hcs, hs', by omega⟩
    have hL : ∀ d, d < len → ((List.range len).map fun i => if hi : i < len then Classical.choose (hrow i hi) else []).getD d [] = if hi : d < len then Classical.choose (hrow d hi) else [] := fun d hd => by
      rw [List.getD_eq_getElem?_getD, List.getElem?_map, List.getElem?_range hd]
      rfl
    refine ⟨(List.range len).map fun i => if hi : i < len then Classical.choose (hrow i hi) else [], by simp, ?_, by omega, fun d => ?_⟩
    · by_cases h0 : len = 0
      · exact .inl (by simp [h0])
      · obtain ⟨_, a', c', h1, _, _⟩ := hrow 0 (by omega)
        have h2 := cell_some h1
        obtain ⟨b, off, sp⟩ := x0
        obtain ⟨hs1, hs2⟩ := h2
        have hs3 : sp = none := hs1
        subst hs3
        refine .inr ⟨b, off, rfl, hs2, fun d hd => ?_⟩
        have hd2 : d < len := by simpa using hd
        rw [hL d hd2, dif_pos hd2]
        obtain ⟨a2, c2, r1, r2, _⟩ := Classical.choose_spec (hrow d hd2)
        exact ⟨a2, c2, by rw [← add_at]; exact r1, r2⟩
    · by_cases hd : d < len
      · rw [hL d hd, dif_pos hd]
        obtain ⟨_, _, _, _, r3⟩ := Classical.choose_spec (hrow d hd)
        exact r3
      · rw [List.getD_eq_getElem?_getD, List.getElem?_eq_none (by simp; omega)]
        simp
end Go.Proofs.YtfocdlkophdfoaaDoor
