/-
  Texts of the proofs of this seat, joined (part 3).
-/
import Derived.Deep.RegionHeld3
import Derived.Deep.AppendLies
import Derived.Maps.AppendAt
import Derived.LaidEql
import Derived.Stop.Asserts
import Derived.RowKitTokens
import Derived.Test.YtangofjpnhhfeabDoorCards
import Derived.Test.YtangofjpnhhfeabDoorTie
import Derived.ProofKit
import Derived.OpenShut
import Derived.Deep.Strs
import Derived.Deep.DeepHandedRow
import Derived.Lib.LaidTab
import Derived.LaidHandle
import Derived.JoinedOf
import Derived.KernelRfl
import Derived.Deep.QuietTactic
import Derived.BigQuiet
import Derived.StillTailTactics
import Derived.Test.YtangofjpnhhfeabDoorJ2
namespace Go.Proofs.YtangofjpnhhfeabDoor
open Go.RowKit
theorem OwnsL.room {w w' : World} {l : List Int} {e : Ending} (h : OwnsL w l e w') : ∃ a cap, e = .returned (.slice a l.length cap) ∧ SrcC w' a l.length cap (lf l) ∧ Below w.heap.size w w' := by
  obtain ⟨v, rfl, ho, hb⟩ := h
  obtain ⟨a, cap, rfl, hcap, hs⟩ := src_of_owns2 ho
  exact ⟨a, cap, rfl, ⟨hcap, hs⟩, hb⟩
/-- How many of the first j are not the i-th. -/
def cO (i j : Nat) : Nat := if j ≤ i then j else j - 1
theorem cO_other {i j : Nat} (h : j ≠ i) : cO i (j + 1) = cO i j + 1 := by
  unfold cO
  by_cases h1 : j ≤ i
  · rw [if_pos h1, if_pos (by omega)]
  · rw [if_neg h1, if_neg (by omega)]; omega
theorem cO_at (i : Nat) : cO i (i + 1) = cO i i := by
  unfold cO
  rw [if_neg (by omega), if_pos (Nat.le_refl _)]; omega
theorem cO_end {i n : Nat} (h : i < n) : cO i n = n - 1 := by
  unfold cO
  rw [if_neg (by omega)]
theorem cO_le (i j : Nat) : cO i j ≤ j := by
  unfold cO
  split <;> omega
theorem oth_at (X : Nat → Int) {i j : Nat} (h : j ≠ i) : othS X i (cO i j) = X j := by
  unfold othS cO
  by_cases h1 : j ≤ i
  · rw [if_pos h1, if_pos (by omega)]
  · rw [if_neg h1, if_neg (by omega)]
    congr 1
    omega
theorem byF_other (f : Int) (X : Nat → Int) {i j : Nat} (h : j ≠ i) : RS (byF f X i j * RS (X i - X j) (P f)) (P f) = byF f X i (j + 1) := by
  show _ = if j = i then byF f X i j else _
  rw [if_neg h]
theorem byF_at (f : Int) (X : Nat → Int) (i : Nat) : byF f X i (i + 1) = byF f X i i := if_pos rfl
set_option maxRecDepth 100000 in
set_option maxHeartbeats 6400000 in
theorem through_c (f : Int) (a : Option Addr) (n cap : Nat) (X : Nat → Int) (a2 : Option Addr) (cap2 : Nat) (Y : Nat → Int) (w : World) (hf : 0 ≤ f ∧ f ≤ 8) (n1 : 1 ≤ n) (hn : n ≤ 40) (hs : Src w a n X) (hs2 : Src w a2 n Y) : Calls Tryd.prog 43 #[.int .i64 f, .slice a n cap, .slice a2 n cap2] w (OwnsL w (lagL f X Y n n)) := by
  obtain ⟨b, off, rfl, hlt, hc⟩ : ∃ b off, a = some ⟨b, off, none⟩ ∧ b < w.heap.size ∧ ∀ j, j < n → w.cell? ⟨b, off + j, none⟩ = some (.int .i64 (X j)) := by
    rcases hs with hq | hq
    · omega
    · exact hq
  obtain ⟨b2, off2, rfl, hlt2, hc2⟩ : ∃ b off, a2 = some ⟨b, off, none⟩ ∧ b < w.heap.size ∧ ∀ j, j < n → w.cell? ⟨b, off + j, none⟩ = some (.int .i64 (Y j)) := by
    rcases hs2 with hq | hq
    · omega
    · exact hq
  have HC := Lib.hid hc
  have HC2 := Lib.hid hc2
  have HSU : Hid (∀ x y w, Calls Tryd.prog 73 #[.int .i64 f, .int .i64 x, .int .i64 y] w fun e w' => e = .returned (.int .i64 (RS (x - y) (P f))) ∧ w = w') := Lib.hid fun x y w => by have := sSub f x y w; rwa [mSub, if_pos hf] at this
  have HMU : Hid (∀ x y w, Calls Tryd.prog 35 #[.int .i64 f, .int .i64 x, .int .i64 y] w fun e w' => e = .returned (.int .i64 (RS (x * y) (P f))) ∧ w = w') := Lib.hid fun x y w => by have := sMul f x y w; rwa [mMul, if_pos hf] at this
  have HIN := Lib.hid (sInverse f)
  have lpol : ∀ i, PolOk f (lagL f X Y n i) := fun i => ⟨hf, by have := lagL_len hf.1 hf.2 X Y n1 i; omega, lagL_pol hf.1 hf.2 X Y n i⟩
  have tpol : ∀ i, PolOk f (lagT f X Y n i) := fun i => ⟨hf, by have := lagT_len hf.1 hf.2 X Y n1 i; omega, lagT_pol hf.1 hf.2 X Y n i⟩
  have vlen : ∀ i, (vanL f (othS X i) (n - 1)).length = n := fun i => by rw [vanL_len hf.1 hf.2]; omega
  have PV : Hid (∀ (i : Nat) (x : Option Addr) (c : Nat) W, Src W x (n - 1) (othS X i) → Calls Tryd.prog 76 #[.int .i64 f, .slice x (n - 1) c] W (ListL W (vanL f (othS X i) (n - 1)))) := Lib.hid fun i x c W h => van_c f x (n - 1) c (othS X i) W hf (by omega) h
  have PS : Hid (∀ (i : Nat) (x : Option Addr) (c : Nat) W, Src W x (vanL f (othS X i) (n - 1)).length (lf (vanL f (othS X i) (n - 1))) → Calls Tryd.prog 75 #[.int .i64 f, .slice x (vanL f (othS X i) (n - 1)).length c, .int .i64 (RS (Y i * mPower f (byF f X i n) (-1)) (P f))] W (ListL W (lagT f X Y n i))) := Lib.hid fun i x c W h => by
    have := sScalePoly f x (vanL f (othS X i) (n - 1)) c (RS (Y i * mPower f (byF f X i n) (-1)) (P f)) W (by rw [vlen]; omega) h
    rwa [show mScalePoly f (vanL f (othS X i) (n - 1)) (RS (Y i * mPower f (byF f X i n) (-1)) (P f)) = lagT f X Y n i by unfold mScalePoly; rw [if_pos ⟨hf, by rw [vlen]; omega, vanL_pol hf.1 hf.2 _ _⟩]; rfl] at this
  have PA : Hid (∀ (i : Nat) (x y : Option Addr) (c d : Nat) W, Src W x (lagL f X Y n i).length (lf (lagL f X Y n i)) → Src W y (lagT f X Y n i).length (lf (lagT f X Y n i)) → Calls Tryd.prog 74 #[.int .i64 f, .slice x (lagL f X Y n i).length c, .slice y (lagT f X Y n i).length d] W (OwnsL W (lagL f X Y n (i + 1)))) := Lib.hid fun i x y c d W h1 h2 => sAddPoly_on f x y _ _ c d W (by have := (lpol i).2.1; omega) (by have := (tpol i).2.1; omega) h1 h2 (lpol i) (tpol i)
  have PC : Hid (∀ (x : Option Addr) (c : Nat) W, SrcC W x (lagL f X Y n n).length c (lf (lagL f X Y n n)) → Calls Tryd.prog 70 #[.slice x (lagL f X Y n n).length c] W (OwnsL W (lagL f X Y n n))) := Lib.hid fun x c W h => by
    have := cut_c x (lagL f X Y n n).length c (lf (lagL f X Y n n)) W (by have := (lpol n).2.1; omega) h.1 h.2
    rwa [show cutL (lagL f X Y n n).length (lf (lagL f X Y n n)) = lagL f X Y n n from list_ext (by rw [cutL_len, (lpol n).2.2.full]) fun j _ => by rw [lf_cutL]; split; rfl; rw [lf_out _ (by omega)]] at this
  have HBO := Lib.hid (fun i j => @byF_other f X i j)
  have HOA := Lib.hid (fun i j => @oth_at X i j)
  obtain ⟨i0, hi, hz0, hz1, hz2⟩ := info_parts info3
  have HI := Lib.hid hi
  have HZ0 := Lib.hid hz0
  have HZ1 := Lib.hid hz1
  have HZ2 := Lib.hid hz2
  have HL0 : Hid (Src (w.alloc (.cells #[] 3)) (some ⟨w.heap.size, 0, none⟩) (lagL f X Y n 0).length (lf (lagL f X Y n 0))) := Lib.hid (.inl rfl)
  have BA : Hid (Below w.heap.size w (w.alloc (.cells #[] 3))) := Lib.hid ((Below.refl _ _).alloc (Nat.le_refl _) _)
  have hc00 : (lagL f X Y n 0).length ≤ 0 := Nat.le_refl 0
  clear hi hz0 hz1 hz2 hs hs2 hc hc2 lpol tpol vlen
  go_enter Tryd.func43, Tryd.ntmps43
  go_wp2_with fail
  go_loopw [7, 8, 9, 10, 11] (fun v iv _ _ _ wr => ∃ (i : Nat) (x : Option Addr) (c : Nat), iv = .int .i64 i ∧ i ≤ n ∧ v = .slice x (lagL f X Y n i).length c ∧ (lagL f X Y n i).length ≤ c ∧ Hid (Src wr x (lagL f X Y n i).length (lf (lagL f X Y n i))) ∧ Below w.heap.size w wr) (fun _ iv _ _ _ _ => n - (intOf iv).toNat)
  case atStart => exact ⟨0, _, 0, rfl, Nat.zero_le _, rfl, hc00, HL0, BA.out⟩
  case round =>
    clear HL0 BA hc00
    obtain ⟨i, x, c, rfl, hin, rfl, hcc, HV, hb⟩ := hrel
    generalize wr = W0 at *
    by_cases h1 : i < n
    · have hd1 : decide ((i : Int) < n) = true := decide_eq_true (by omega)
      have hs := hb.size
      go_wp2_with fail
      go_loopw [9, 10, 11] (fun v2 bv jv wr2 => ∃ j : Nat, jv = .int .i64 j ∧ j ≤ n ∧ bv = .int .i64 (byF f X i j) ∧ wr2.ownsRow W0.heap.size 3 1 v2 (cO i j) (xsF (othS X i) (cO i j)) ∧ Below W0.heap.size W0 wr2) (fun _ _ jv _ => n - (intOf jv).toNat)
      case atStart => exact ⟨0, rfl, Nat.zero_le _, rfl, own_empty W0 _, (Below.refl _ _).alloc (Nat.le_refl _) _⟩
      case round =>
        obtain ⟨j, rfl, hj, rfl, hown, hnx⟩ := hrel
        have hs2 := hnx.size
        by_cases h2 : j < n
        · have hd2 : decide ((j : Int) < n) = true := decide_eq_true (by omega)
          by_cases h3 : j = i
          · subst h3
            have hd3 : ((j : Int) != j) = false := by simp
            have HR : Hid (wr.ownsRow W0.heap.size 3 1 _ (cO j (j + 1)) (xsF (othS X j) (cO j (j + 1)))) := Lib.hid (by rw [cO_at]; exact hown)
            have HB2 := Lib.hid (byF_at f X j)
            clear hown
            go_wp2
            go_roundw
            case rel => exact ⟨j + 1, by go_num, by omega, vint HB2.out.symm, HR.out, hnx⟩
            case measure => simp [intOf]; omega
          · have hd3 : ((j : Int) != i) = true := by rw [bne_iff_ne]; omega
            have hbx := below_up hb hnx hs
            have c1 : wr.cell? ⟨b, off + j, none⟩ = some (.int .i64 (X j)) := (hbx.cell (p := ⟨b, off + j, none⟩) hlt).trans (HC.out j h2)
            have hj2 : (j : Int) < n := by omega
            have hcj := cO_le i j
            go_wp2_with (at_builtin; refine wpList_append_own _ rfl _ _ 22 rfl W0.heap.size 3 i0 (.int .i64 0) 1 8 Tryd.underlying22 HI.out HZ0.out HZ1.out HZ2.out rfl (by decide) _ _ _ rfl (hown.alloc _) ⟨wr.heap.size, 0, none⟩ 1 1 [.int .i64 (X j)] rfl rfl ?c1 ?c2 ?c3 ?c4 ?c5 ?_)
            case c1 => exact cell_one_new _ _ _
            case c2 => intro u hu; simp at hu; subst hu; rfl
            case c3 => unfold maxLen; omega
            case c4 => omega
            case c5 => simp; omega
            intro v' w3 hown' hgrow _
            have hb3 : Below W0.heap.size W0 w3 := (hnx.alloc hs2 _).grown hgrow (by simp; omega) (own_ge hown)
            rw [show [Value.int .i64 (X j)] = [Value.int .i64 (othS X i (cO i j))] by rw [HOA.out i j h3], xsF_succ (othS X i), ← cO_other h3] at hown'
            clear hgrow hown hnx c1
            have hbx3 := below_up hb hb3 hs
            have d1 : w3.cell? ⟨b, off + i, none⟩ = some (.int .i64 (X i)) := (hbx3.cell (p := ⟨b, off + i, none⟩) hlt).trans (HC.out i h1)
            have d2 : w3.cell? ⟨b, off + j, none⟩ = some (.int .i64 (X j)) := (hbx3.cell (p := ⟨b, off + j, none⟩) hlt).trans (HC.out j h2)
            have hi0 : (0 : Int) ≤ (i : Int) := by omega
            have hi2 : (i : Int) < n := by omega
            have hj0 : (0 : Int) ≤ (j : Int) := by omega
            have HB2 := Lib.hid (HBO.out i j h3)
            have HMk : Hid (∀ p2 x y, Calls Tryd.prog 35 #[.int .i64 f, .int .i64 x, .int .i64 y] (w3.drewN p2) fun e w' => e = .returned (.int .i64 (RS (x * y) (P f))) ∧ ∃ n, w' = w3.drewN n) := Lib.hid fun p2 x y => (HMU.out x y _).mono fun _ _ h => ⟨h.1, p2, h.2.symm⟩
            have HSk : Hid (∀ p2 x y, Calls Tryd.prog 73 #[.int .i64 f, .int .i64 x, .int .i64 y] (w3.drewN p2) fun e w' => e = .returned (.int .i64 (RS (x - y) (P f))) ∧ ∃ n, w' = w3.drewN n) := Lib.hid fun p2 x y => (HSU.out x y _).mono fun _ _ h => ⟨h.1, p2, h.2.symm⟩
            go_wp2
            go_quiet ((first | (go_at_call 35; exact HMk.out _ _ _) | (go_at_call 73; exact HSk.out _ _ _)))
            rename_i nq
            have HO4 : Hid ((w3.drewN nq).ownsRow W0.heap.size 3 1 v' (cO i (j + 1)) (xsF (othS X i) (cO i (j + 1)))) := Lib.hid hown'
            have hb4 := below_drewN hb3 nq
            clear hown' d1 d2 hbx3
            go_wp2
            go_roundw
            case rel => exact ⟨j + 1, by go_num, by omega, vint HB2.out, HO4.out, hb4⟩
            case measure => simp [intOf]; omega
        · have hd2 : decide ((j : Int) < n) = false := decide_eq_false (by omega)
          obtain rfl : j = n := by omega
          rw [cO_end h1] at hown
          obtain ⟨ao, co, rfl, hco, hso⟩ := src_of_owns2 hown
          have HSO := Lib.hid hso
          have hbx := below_up hb hnx hs
          have hbd : Below W0.heap.size W0 wr.drew := hnx.drew
          have hbxd : Below w.heap.size w wr.drew := hbx.drew
          have HVd := Lib.hid (HV.out.keep hbd)
          have hsd : Src wr.drew ao (j - 1) (othS X i) := hso
          have kY : wr.cell? ⟨b2, off2 + i, none⟩ = some (.int .i64 (Y i)) := (hbx.cell (p := ⟨b2, off2 + i, none⟩) hlt2).trans (HC2.out i h1)
          have kYd : wr.drew.cell? ⟨b2, off2 + i, none⟩ = some (.int .i64 (Y i)) := kY
          have hi0 : (0 : Int) ≤ (i : Int) := by omega
          have hi2 : (i : Int) < j := by omega
          clear hown hso
          go_wp2_with fail
          go_region_held3 (fun W => W.cell? ⟨b2, off2 + i, none⟩ = some (.int .i64 (Y i)))
            (first | exact kY | exact kYd | exact kY4 | exact kY5 | exact kY6 | go_keep)
            (first
              | (go_at_call 76; refine (PV.out i ao co _ hsd).mono ?_; rintro e w4 ⟨y4, d4, rfl, s4, b4⟩; have b5 := below_up hbd b4 hbd.size; have kY4 := (b4.cell (p := ⟨b2, off2 + i, none⟩) (block_lt_of_cell kYd)).trans kYd)
              | (go_at_call 36; refine (HIN.out _ _).mono ?_; rintro e w' ⟨rfl, rfl⟩)
              | (go_at_call 35; refine (HMU.out _ _ _).mono ?_; rintro e w' ⟨rfl, rfl⟩)
              | (go_at_call 75; refine (PS.out i y4 d4 _ s4).mono ?_; rintro e w5 ⟨y5, d5, rfl, s5, b6⟩; have b7 := below_up b5 b6 b5.size; have kY5 := (b6.cell (p := ⟨b2, off2 + i, none⟩) (block_lt_of_cell kY4)).trans kY4)
              | (go_at_call 74; refine (PA.out i x y5 c d5 _ (HV.out.keep b7) s5).mono ?_; intro e w6 h6; obtain ⟨y6, d6, rfl, s6, b8⟩ := h6.room; have b9 := below_up b7 b8 b7.size; have kY6 := (b8.cell (p := ⟨b2, off2 + i, none⟩) (block_lt_of_cell kY5)).trans kY5))
          all_goals
            have HR6 := Lib.hid s6.2
            have hc6 := s6.1
            have hb10 := below_up hb b9 hs
            clear s4 s5 s6 b4 b5 b6 b7 b8 b9 kY4 kY5 kY6 hsd
            go_wp2
            go_roundw
          case rel => exact ⟨i + 1, y6, d6, by go_num, by omega, rfl, hc6, HR6, hb10⟩
          case measure => simp [intOf]; omega
    · have hd1 : decide ((i : Int) < n) = false := decide_eq_false (by omega)
      obtain rfl : i = n := by omega
      have HK := Lib.hid (PC.out x c W0 ⟨hcc, HV.out⟩)
      clear HV
      go_wp2_with fail
      refine HK.out.mono ?_
      intro e w4 h4
      have HR := Lib.hid (h4.up hb hb.size)
      obtain ⟨v4, rfl, _⟩ := h4
      go_wp2
      go_ret
      exact HR.out
end Go.Proofs.YtangofjpnhhfeabDoor
namespace Go.Proofs.YtangofjpnhhfeabDoor
open Go.RowKit
theorem lag_inter {f : Int} {xs ys : List Int} (h : InterOk f xs ys) : lagL f (lf xs) (lf ys) xs.length xs.length = interL f (lf xs) (lf ys) xs.length := (interL_lag h.1.1.1 h.1.1.2 h.1.2.1.1 h.1.dist fun j hj => h.2.2 j (by rw [h.2.1]; exact hj)).symm
set_option maxRecDepth 100000 in
set_option maxHeartbeats 1600000 in
theorem sInterpolate (f : Int) (a : Option Addr) (xs : List Int) (cap : Nat) (a2 : Option Addr) (ys : List Int) (cap2 : Nat) (w : World) (hn : xs.length ≤ 1048576) (hn2 : ys.length ≤ 1048576) (hs : SrcC w a xs.length cap (lf xs)) (hs2 : Src w a2 ys.length (lf ys)) : Calls Tryd.prog 22 #[.int .i64 f, .slice a xs.length cap, .slice a2 ys.length cap2] w (ListLB w (mInterpolate0 f xs ys) (mInterpolate1 f xs ys)) := by
  have R := Lib.hid (sPointsOk f a xs cap w hn hs)
  have HB : Hid (∀ q, Below w.heap.size w (w.drewN q)) := Lib.hid fun q => below_drewN (Below.refl _ _) q
  have RE : Hid (∀ q, Calls Tryd.prog 42 #[.int .i64 f, .slice a2 ys.length cap2] (w.drewN q) (SameB (w.drewN q) (mEls f ys))) := Lib.hid fun q => els_c f a2 ys cap2 (w.drewN q) hn2 (hs2.keep (HB.out q))
  by_cases h1 : PtsOk f xs
  · rw [pts_iff.2 h1] at R
    by_cases h2 : ys.length = xs.length
    · have d2 : ((ys.length : Int) != xs.length) = false := by rw [bne_eq_false_iff_eq]; omega
      by_cases h3 : ElsOk f ys
      · have h : InterOk f xs ys := ⟨h1, h2, h3⟩
        rw [els_on h1.1 h3] at RE
        rw [show mInterpolate0 f xs ys = interL f (lf xs) (lf ys) xs.length by unfold mInterpolate0; rw [if_pos h], show mInterpolate1 f xs ys = true by unfold mInterpolate1; simp [h]]
        have HT : Hid (∀ q, Calls Tryd.prog 43 #[.int .i64 f, .slice a xs.length cap, .slice a2 ys.length cap2] (w.drewN q) (OwnsL (w.drewN q) (interL f (lf xs) (lf ys) xs.length))) := Lib.hid fun q => by
          have := through_c f a xs.length cap (lf xs) a2 cap2 (lf ys) (w.drewN q) h1.1 h1.2.1.1 h1.2.1.2 (hs.src.keep (HB.out q)) (by rw [← h2]; exact hs2.keep (HB.out q))
          rw [lag_inter h] at this
          rw [h2]
          exact this
        clear hs hs2 h h1 h2 h3
        generalize interL f (lf xs) (lf ys) xs.length = L at *
        go_enter Tryd.func22, Tryd.ntmps22
        go_wp2_with fail
        refine R.out.mono ?_
        rintro e w' ⟨rfl, q, rfl⟩
        go_wp2_with fail
        refine (RE.out q).mono ?_
        rintro e w' ⟨rfl, rfl⟩
        go_wp2_with fail
        refine (HT.out q).mono ?_
        intro e w4 h4
        obtain ⟨y, d, rfl, s4, b4⟩ := h4.list
        have HS4 := Lib.hid s4
        have hb4 := below_up (HB.out q) b4 (HB.out q).size
        clear s4 h4 b4
        go_wp2
        go_ret2
        exact ⟨y, d, rfl, HS4.out, hb4⟩
      · rw [els_off fun h => h3 h.2] at RE
        rw [show mInterpolate0 f xs ys = [] by unfold mInterpolate0; rw [if_neg fun h => h3 h.2.2], show mInterpolate1 f xs ys = false by unfold mInterpolate1; simp only [decide_eq_false_iff_not]; exact fun h => h3 h.2.2]
        clear hs hs2 h1 h2 h3
        go_enter Tryd.func22, Tryd.ntmps22
        go_wp2_with fail
        refine R.out.mono ?_
        rintro e w' ⟨rfl, q, rfl⟩
        go_wp2_with fail
        refine (RE.out q).mono ?_
        rintro e w' ⟨rfl, rfl⟩
        go_wp2
        go_ret2
        exact ⟨none, 0, rfl, .inl rfl, HB.out q⟩
    · have d2 : ((ys.length : Int) != xs.length) = true := by rw [bne_iff_ne]; omega
      rw [show mInterpolate0 f xs ys = [] by unfold mInterpolate0; rw [if_neg fun h => h2 h.2.1], show mInterpolate1 f xs ys = false by unfold mInterpolate1; simp only [decide_eq_false_iff_not]; exact fun h => h2 h.2.1]
      clear hs hs2 h1 h2
      go_enter Tryd.func22, Tryd.ntmps22
      go_wp2_with fail
      refine R.out.mono ?_
      rintro e w' ⟨rfl, q, rfl⟩
      go_wp2
      go_ret2
      exact ⟨none, 0, rfl, .inl rfl, HB.out q⟩
  · rw [pts_not.2 h1] at R
    rw [show mInterpolate0 f xs ys = [] by unfold mInterpolate0; rw [if_neg fun h => h1 h.1], show mInterpolate1 f xs ys = false by unfold mInterpolate1; simp only [decide_eq_false_iff_not]; exact fun h => h1 h.1]
    clear hs hs2 h1
    go_enter Tryd.func22, Tryd.ntmps22
    go_wp2_with fail
    refine R.out.mono ?_
    rintro e w' ⟨rfl, q, rfl⟩
    go_wp2
    go_ret2
    exact ⟨none, 0, rfl, .inl rfl, HB.out q⟩
end Go.Proofs.YtangofjpnhhfeabDoor
namespace Go.Proofs.YtangofjpnhhfeabDoor
open Go.RowKit
open Classical in
noncomputable def mCode (f : Int) (xs : List Int) (k : Int) : Bool := decide (CodeOk f xs k)
theorem code_iff {f : Int} {xs : List Int} {k : Int} : mCode f xs k = true ↔ CodeOk f xs k := by unfold mCode; simp
theorem code_not {f : Int} {xs : List Int} {k : Int} : mCode f xs k = false ↔ ¬ CodeOk f xs k := by unfold mCode; simp
theorem code_c (f : Int) (a : Option Addr) (xs : List Int) (cap : Nat) (k : Int) (w : World) (hn : xs.length ≤ 1048576) (hs : SrcC w a xs.length cap (lf xs)) : Calls Tryd.prog 41 #[.int .i64 f, .slice a xs.length cap, .int .i64 k] w (DrewB w (mCode f xs k)) := by
  have R := Lib.hid (sPointsOk f a xs cap w hn hs)
  have RI : Hid (∀ q, Calls Tryd.prog 46 #[.int .i64 k, .int .i64 1, .int .i64 xs.length] (w.drewN q) (SameB (w.drewN q) (decide (1 ≤ k ∧ k ≤ (xs.length : Int))))) := Lib.hid fun q => in_c k 1 xs.length (w.drewN q)
  clear hs
  by_cases h1 : xs.length ≤ 10
  · have hd1 : decide ((xs.length : Int) ≤ 10) = true := decide_eq_true (by omega)
    by_cases h2 : PtsOk f xs
    · rw [pts_iff.2 h2] at R
      have HR : Hid (decide (1 ≤ k ∧ k ≤ (xs.length : Int)) = mCode f xs k) := Lib.hid (by
        by_cases h3 : 1 ≤ k ∧ k ≤ (xs.length : Int)
        · rw [decide_eq_true h3, code_iff.2 ⟨h1, h2, h3⟩]
        · rw [decide_eq_false h3, code_not.2 fun h => h3 h.2.2])
      rw [HR.out] at RI
      clear h2 h1 HR
      generalize mCode f xs k = B at *
      go_enter Tryd.func41, Tryd.ntmps41
      go_wp2_with fail
      refine R.out.mono ?_
      rintro e w' ⟨rfl, q, rfl⟩
      go_wp2_with fail
      refine (RI.out q).mono ?_
      rintro e w' ⟨rfl, rfl⟩
      go_wp2
      go_ret
      exact ⟨rfl, q, rfl⟩
    · rw [pts_not.2 h2] at R
      rw [code_not.2 fun h => h2 h.2.1]
      clear h2 h1
      go_enter Tryd.func41, Tryd.ntmps41
      go_wp2_with fail
      refine R.out.mono ?_
      rintro e w' ⟨rfl, q, rfl⟩
      go_wp2
      go_ret
      exact ⟨rfl, q, rfl⟩
  · have hd1 : decide ((xs.length : Int) ≤ 10) = false := decide_eq_false (by omega)
    rw [code_not.2 fun h => h1 h.1]
    clear h1
    go_enter Tryd.func41, Tryd.ntmps41
    go_wp2
    go_ret
    exact ⟨rfl, 0, rfl⟩
theorem code_ok {f : Int} {xs : List Int} {k : Int} (h : CodeOk f xs k) : (0 ≤ f ∧ f ≤ 8) ∧ 1 ≤ xs.length ∧ xs.length ≤ 10 ∧ 1 ≤ k ∧ k ≤ 10 := ⟨h.2.1.1, h.2.1.2.1.1, h.1, h.2.2.1, by have := h.2.2.2; have := h.1; omega⟩
set_option maxRecDepth 100000 in
set_option maxHeartbeats 6400000 in
theorem enc_on (f : Int) (a : Option Addr) (xs : List Int) (cap : Nat) (a2 : Option Addr) (m : List Int) (cap2 : Nat) (w : World) (hn : xs.length ≤ 1048576) (hn2 : m.length ≤ 1048576) (hs : SrcC w a xs.length cap (lf xs)) (hs2 : SrcC w a2 m.length cap2 (lf m)) (h : EncOk f xs m) : Calls Tryd.prog 38 #[.int .i64 f, .slice a xs.length cap, .slice a2 m.length cap2] w (OwnsL w (encL f xs m)) := by
  have BA : Hid (∀ o, Below w.heap.size w (w.alloc o)) := Lib.hid fun o => (Below.refl _ _).alloc (Nat.le_refl _) o
  have R : Hid (∀ o, Calls Tryd.prog 41 #[.int .i64 f, .slice a xs.length cap, .int .i64 m.length] (w.alloc o) (DrewB (w.alloc o) true)) := Lib.hid fun o => by
    have := code_c f a xs cap m.length (w.alloc o) hn (hs.keep (BA.out o))
    rwa [code_iff.2 h.1] at this
  have RE : Hid (∀ o q, Calls Tryd.prog 42 #[.int .i64 f, .slice a2 m.length cap2] ((w.alloc o).drewN q) (SameB ((w.alloc o).drewN q) true)) := Lib.hid fun o q => by
    have := els_c f a2 m cap2 ((w.alloc o).drewN q) hn2 (hs2.src.keep (below_drewN (BA.out o) q))
    rwa [els_on h.1.2.1.1 h.2] at this
  obtain ⟨hf, x1, x10, k1, k10⟩ := code_ok h.1
  obtain ⟨b, off, rfl, hlt, hc⟩ : ∃ b off, a = some ⟨b, off, none⟩ ∧ b < w.heap.size ∧ ∀ j, j < xs.length → w.cell? ⟨b, off + j, none⟩ = some (.int .i64 (lf xs j)) := by
    rcases hs.src with hq | hq
    · omega
    · exact hq
  have HC := Lib.hid hc
  have HPC : Hid (∀ W, Below w.heap.size w W → Calls Tryd.prog 70 #[.slice a2 m.length cap2] W (OwnsL W (cutL m.length (lf m)))) := Lib.hid fun W hb => cut_c a2 m.length cap2 (lf m) W hn2 hs2.1 (hs2.src.keep hb)
  have cpol : PolOk f (cutL m.length (lf m)) := ⟨hf, by have := cutL_le m.length (lf m); omega, Pol.cut (by have := P_bd hf.1 hf.2; omega) h.2⟩
  have HPE : Hid (∀ (y : Option Addr) (d : Nat) (x : Int) W, Src W y (cutL m.length (lf m)).length (lf (cutL m.length (lf m))) → Calls Tryd.prog 30 #[.int .i64 f, .slice y (cutL m.length (lf m)).length d, .int .i64 x] W (IntP W (RS (evN x (lf m) m.length) (P f)))) := Lib.hid fun y d x W hy => by
    have := sEvalPoly f y (cutL m.length (lf m)) d x W (by have := cpol.2.1; omega) hy
    rwa [eval_is x cpol, evL_n (cutL_le m.length (lf m)), lf_cut_self] at this
  have HF : Hid (∀ v W, W.ownsRow w.heap.size 3 1 v xs.length (xsF (fun i => RS (evN (lf xs i) (lf m) m.length) (P f)) xs.length) → Below w.heap.size w W → OwnsL w (encL f xs m) (.returned v) W) := Lib.hid fun v W ho hb => owns_to (w := w) (l := encL f xs m) ho (tab_len _ _).symm (fun j hj => by unfold encL; rw [lf_tab, if_pos hj]) hb
  obtain ⟨i0, hi, hz0, hz1, hz2⟩ := info_parts info3
  have HI := Lib.hid hi
  have HZ0 := Lib.hid hz0
  have HZ1 := Lib.hid hz1
  have HZ2 := Lib.hid hz2
  clear hi hz0 hz1 hz2 hs hs2 hc h cpol
  generalize encL f xs m = EL at *
  generalize cutL m.length (lf m) = CL at *
  generalize lf m = M at *
  generalize lf xs = X at *
  generalize xs.length = n at *
  generalize m.length = r at *
  go_enter Tryd.func38, Tryd.ntmps38
  go_wp2_with fail
  refine (R.out _).mono ?_
  rintro e w' ⟨rfl, q0, rfl⟩
  have HO0 : Hid (((w.alloc (.cells #[] 3)).drewN q0).ownsRow w.heap.size 3 1 (.slice (some ⟨w.heap.size, 0, none⟩) 0 0) 0 (xsF (fun i => RS (evN (X i) M r) (P f)) 0)) := Lib.hid (own_empty w _)
  have HB0 := Lib.hid (below_drewN (BA.out (.cells #[] 3)) q0)
  go_wp2_with fail
  refine (RE.out _ _).mono ?_
  rintro e w' ⟨rfl, rfl⟩
  clear R RE
  go_wp2_with fail
  go_loopw [7, 8] (fun v iv wr => ∃ i : Nat, iv = .int .i64 i ∧ i ≤ n ∧ wr.ownsRow w.heap.size 3 1 v i (xsF (fun i => RS (evN (X i) M r) (P f)) i) ∧ Below w.heap.size w wr) (fun _ iv _ => n - (intOf iv).toNat)
  case atStart => exact ⟨0, rfl, Nat.zero_le _, HO0.out, HB0.out⟩
  case round =>
    clear HO0 HB0
    obtain ⟨i, rfl, hin, hown, hnx⟩ := hrel
    by_cases h1 : i < n
    · have hd1 : decide ((i : Int) < n) = true := decide_eq_true (by omega)
      have hge := own_ge hown
      have hsz := hnx.size
      have kX : wr.cell? ⟨b, off + i, none⟩ = some (.int .i64 (X i)) := (hnx.cell (p := ⟨b, off + i, none⟩) hlt).trans (HC.out i h1)
      have kXd : wr.drew.cell? ⟨b, off + i, none⟩ = some (.int .i64 (X i)) := kX
      have hi0 : (0 : Int) ≤ (i : Int) := by omega
      have hi2 : (i : Int) < n := by omega
      have hbd : Below w.heap.size w wr.drew := hnx.drew
      have hwd : Below wr.heap.size wr wr.drew := (Below.refl _ _).drew
      go_wp2_with fail
      go_region_held3 (fun W => W.cell? ⟨b, off + i, none⟩ = some (.int .i64 (X i)))
        (first
          | exact kX
          | exact kXd
          | exact kX4
          | exact kX5
          | go_keep
          | (rw [hgrow.cell_far _ (by simp; omega) (fun e => by have h9 : w.heap.size ≤ b := hge _ e.symm; omega)]; assumption))
        (first
          | (go_at_call 70; refine (HPC.out _ hbd).mono ?_; intro e w4 h4; obtain ⟨y4, d4, rfl, s4, b4⟩ := h4.room; have b5 := below_up hwd b4 hwd.size; have kX4 := (b4.cell (p := ⟨b, off + i, none⟩) (block_lt_of_cell kXd)).trans kXd)
          | (go_at_call 30; refine (HPE.out y4 d4 (X i) _ s4.2).mono ?_; rintro e w5 ⟨rfl, b6⟩; have b7 := below_up b5 b6 b5.size; have b8 := below_up hnx b7 hsz; have hs8 := b8.size; have kX5 := (b6.cell (p := ⟨b, off + i, none⟩) (block_lt_of_cell kX4)).trans kX4; have hown5 := owns_keep hown b7)
          | (refine step_append_lies _ (by rfl) _ _ _ (by rfl) w.heap.size 3 i0 _ 1 8 Tryd.underlying22 HI.out HZ0.out HZ1.out HZ2.out rfl (by omega) _ i _ (by rfl) (hown5.alloc _) ⟨w5.heap.size, 0, none⟩ 1 1 [.int .i64 (RS (evN (X i) M r) (P f))] (by rfl) (by rfl) (World.news_of_block (cs := #[.int .i64 (RS (evN (X i) M r) (P f))]) (t := 3) (fr := (0, 0)) (heap_alloc_new w5 _)) (by simp [Value.oneCell']) (by omega) (by unfold maxLen; omega) (by omega) (by simp; omega) (w5.heap.size + 1) (by simp) ?_; intro gg cap' w1 hown' hgrow hat hlt'))
      all_goals
        have hbel : Below w.heap.size w w1 := (b8.alloc hs8 _).grown hgrow (by simp; omega) hge
        rw [xsF_succ (fun i => RS (evN (X i) M r) (P f))] at hown'
        clear hgrow hown hown5 kX kXd kX4 kX5 s4 b4 b5 b6 b7 b8 hat hlt'
        go_wp2
        go_roundw
      case rel => exact ⟨i + 1, by go_num, by omega, hown', hbel⟩
      case measure => simp [intOf]; omega
    · have hd1 : decide ((i : Int) < n) = false := decide_eq_false (by omega)
      obtain rfl : i = n := by omega
      have HR := Lib.hid (HF.out _ wr hown hnx)
      clear hown
      go_wp2
      go_ret
      exact HR.out
theorem sEncodeWord (f : Int) (a : Option Addr) (xs : List Int) (cap : Nat) (a2 : Option Addr) (m : List Int) (cap2 : Nat) (w : World) (hn : xs.length ≤ 1048576) (hn2 : m.length ≤ 1048576) (hs : SrcC w a xs.length cap (lf xs)) (hs2 : SrcC w a2 m.length cap2 (lf m)) : Calls Tryd.prog 38 #[.int .i64 f, .slice a xs.length cap, .slice a2 m.length cap2] w (ListL w (mEncodeWord f xs m)) := by
  by_cases h : EncOk f xs m
  · rw [show mEncodeWord f xs m = encL f xs m by unfold mEncodeWord; rw [if_pos h]]
    exact (enc_on f a xs cap a2 m cap2 w hn hn2 hs hs2 h).mono fun _ _ h => h.list
  · rw [show mEncodeWord f xs m = [] by unfold mEncodeWord; rw [if_neg h]]
    have BA : Hid (∀ o, Below w.heap.size w (w.alloc o)) := Lib.hid fun o => (Below.refl _ _).alloc (Nat.le_refl _) o
    have HB : Hid (∀ o q, Below w.heap.size w ((w.alloc o).drewN q)) := Lib.hid fun o q => below_drewN (BA.out o) q
    have R : Hid (∀ o, Calls Tryd.prog 41 #[.int .i64 f, .slice a xs.length cap, .int .i64 m.length] (w.alloc o) (DrewB (w.alloc o) (mCode f xs m.length))) := Lib.hid fun o => code_c f a xs cap m.length (w.alloc o) hn (hs.keep (BA.out o))
    by_cases h2 : CodeOk f xs m.length
    · rw [code_iff.2 h2] at R
      have RE : Hid (∀ o q, Calls Tryd.prog 42 #[.int .i64 f, .slice a2 m.length cap2] ((w.alloc o).drewN q) (SameB ((w.alloc o).drewN q) false)) := Lib.hid fun o q => by
        have := els_c f a2 m cap2 ((w.alloc o).drewN q) hn2 (hs2.src.keep (below_drewN (BA.out o) q))
        rwa [els_off fun h3 => h ⟨h2, h3.2⟩] at this
      clear hs hs2 h h2
      go_enter Tryd.func38, Tryd.ntmps38
      go_wp2_with fail
      refine (R.out _).mono ?_
      rintro e w' ⟨rfl, q, rfl⟩
      go_wp2_with fail
      refine (RE.out _ q).mono ?_
      rintro e w' ⟨rfl, rfl⟩
      go_wp2
      go_ret
      exact ⟨none, 0, rfl, .inl rfl, HB.out _ q⟩
    · rw [code_not.2 h2] at R
      clear hs hs2 h h2
      go_enter Tryd.func38, Tryd.ntmps38
      go_wp2_with fail
      refine (R.out _).mono ?_
      rintro e w' ⟨rfl, q, rfl⟩
      go_wp2
      go_ret
      exact ⟨none, 0, rfl, .inl rfl, HB.out _ q⟩
end Go.Proofs.YtangofjpnhhfeabDoor
namespace Go.Proofs.YtangofjpnhhfeabDoor
open Go.RowKit
/-- A number; memory stays as it is. -/
def DrewI (w : World) (x : Int) (e : Ending) (w' : World) : Prop := e = .returned (.int .i64 x) ∧ ∃ q, w' = w.drewN q
theorem src_cells {w : World} {a : Option Addr} {n : Nat} {F : Nat → Int} (h : Src w a n F) (i : Nat) (hi : i < n) : ∃ b off, a = some ⟨b, off, none⟩ ∧ w.cell? ⟨b, off + i, none⟩ = some (.int .i64 (F i)) := by
  rcases h with rfl | ⟨b, off, rfl, _, hc⟩
  · omega
  · exact ⟨b, off, rfl, hc i hi⟩
set_option maxRecDepth 100000 in
set_option maxHeartbeats 3200000 in
theorem sDiffer (a : Option Addr) (xs : List Int) (cap : Nat) (a2 : Option Addr) (ys : List Int) (cap2 : Nat) (w : World) (hn : xs.length ≤ 1048576) (hn2 : ys.length ≤ 1048576) (hs : Src w a xs.length (lf xs)) (hs2 : Src w a2 ys.length (lf ys)) : Calls Tryd.prog 44 #[.slice a xs.length cap, .slice a2 ys.length cap2] w (DrewI w (mDiffer xs ys)) := by
  by_cases h1 : xs.length ≤ 4096
  · have hd1 : decide ((4096 : Int) < xs.length) = false := decide_eq_false (by omega)
    by_cases h2 : ys.length ≤ 4096
    · have hd2 : decide ((4096 : Int) < ys.length) = false := decide_eq_false (by omega)
      have HA := Lib.hid (src_cells hs)
      have HB := Lib.hid (src_cells hs2)
      have HE : Hid (∀ i, max xs.length ys.length ≤ i → i ≤ max xs.length ys.length → (cntN (difP xs ys) i : Int) = mDiffer xs ys) := Lib.hid fun i h3 h4 => by
        unfold mDiffer difN
        rw [if_pos ⟨h1, h2⟩, show i = max xs.length ys.length by omega]
      have HOA : Hid (∀ i, xs.length ≤ i → difP xs ys i = true) := Lib.hid fun i h => by unfold difP; simp [h]
      have HOB : Hid (∀ i, ys.length ≤ i → difP xs ys i = true) := Lib.hid fun i h => by unfold difP; simp [h]
      have HIN : Hid (∀ i, i < xs.length → i < ys.length → difP xs ys i = (lf xs i != lf ys i)) := Lib.hid fun i h h3 => by
        unfold difP
        rw [decide_eq_false (by omega), decide_eq_false (by omega)]
        rfl
      have HST : Hid (∀ i, difP xs ys i = true → ((cntN (difP xs ys) i : Nat) : Int) + 1 = (cntN (difP xs ys) (i + 1) : Nat)) := Lib.hid fun i h => by
        show _ = ((cntN (difP xs ys) i + (if difP xs ys i then 1 else 0) : Nat) : Int)
        rw [if_pos h]
        omega
      have HSF : Hid (∀ i, difP xs ys i = false → ((cntN (difP xs ys) i : Nat) : Int) = (cntN (difP xs ys) (i + 1) : Nat)) := Lib.hid fun i h => by
        show _ = ((cntN (difP xs ys) i + (if difP xs ys i then 1 else 0) : Nat) : Int)
        rw [h]
        simp
      have HLE := Lib.hid (fun i => cntN_le (difP xs ys) i)
      clear hs hs2
      generalize mDiffer xs ys = R at *
      generalize difP xs ys = D at *
      generalize lf xs = X at *
      generalize lf ys = Y at *
      generalize xs.length = n at *
      generalize ys.length = m at *
      go_enter Tryd.func44, Tryd.ntmps44
      go_wp2_with fail
      go_loopw [5, 6] (fun cv iv wr => ∃ i q : Nat, iv = .int .i64 i ∧ i ≤ max n m ∧ cv = .int .i64 (cntN D i : Nat) ∧ wr = w.drewN q) (fun _ iv _ => max n m - (intOf iv).toNat)
      case atStart => exact ⟨0, 0, rfl, Nat.zero_le _, rfl, rfl⟩
      case round =>
        obtain ⟨i, q, rfl, hin, rfl, rfl⟩ := hrel
        have hcl := HLE.out i
        by_cases h3 : i < n
        · have hd3 : decide ((i : Int) < n) = true := decide_eq_true (by omega)
          have hd3n : decide (i < n) = true := decide_eq_true (by omega)
          have hd4 : decide ((n : Int) ≤ i) = false := decide_eq_false (by omega)
          have hd4n : decide (n ≤ i) = false := decide_eq_false (by omega)
          have hi0 : (0 : Int) ≤ (i : Int) := by omega
          have hi2 : (i : Int) < n := by omega
          obtain ⟨b, off, rfl, c1⟩ := HA.out i h3
          by_cases h4 : i < m
          · have hd5 : decide ((m : Int) ≤ i) = false := decide_eq_false (by omega)
            have hd5n : decide (m ≤ i) = false := decide_eq_false (by omega)
            have hi3 : (i : Int) < m := by omega
            obtain ⟨b2, off2, rfl, c2⟩ := HB.out i h4
            have e0 := HIN.out i h3 h4
            cases hD : D i
            · have e1 : (X i != Y i) = false := by rw [← e0]; exact hD
              have e2 := Lib.hid (HSF.out i hD)
              clear e0
              go_wp2
              go_quiet (fail)
              go_wp2
              go_roundw
              case rel => exact ⟨i + 1, _, by go_num, by omega, vint e2.out, rfl⟩
              case measure => simp [intOf]; omega
            · have e1 : (X i != Y i) = true := by rw [← e0]; exact hD
              have e2 := Lib.hid (HST.out i hD)
              clear e0
              go_wp2
              go_quiet (fail)
              go_wp2
              go_roundw
              case rel => exact ⟨i + 1, _, by go_num, by omega, vint e2.out, rfl⟩
              case measure => simp [intOf]; omega
          · have hd5 : decide ((m : Int) ≤ i) = true := decide_eq_true (by omega)
            have hd5n : decide (m ≤ i) = true := decide_eq_true (by omega)
            have e2 := Lib.hid (HST.out i (HOB.out i (by omega)))
            go_wp2
            go_quiet (fail)
            go_wp2
            go_roundw
            case rel => exact ⟨i + 1, _, by go_num, by omega, vint e2.out, rfl⟩
            case measure => simp [intOf]; omega
        · have hd3 : decide ((i : Int) < n) = false := decide_eq_false (by omega)
          have hd3n : decide (i < n) = false := decide_eq_false (by omega)
          have hd4 : decide ((n : Int) ≤ i) = true := decide_eq_true (by omega)
          have hd4n : decide (n ≤ i) = true := decide_eq_true (by omega)
          by_cases h4 : i < m
          · have hd5 : decide ((i : Int) < m) = true := decide_eq_true (by omega)
            have hd5n : decide (i < m) = true := decide_eq_true (by omega)
            have e2 := Lib.hid (HST.out i (HOA.out i (by omega)))
            go_wp2
            go_quiet (fail)
            go_wp2
            go_roundw
            case rel => exact ⟨i + 1, _, by go_num, by omega, vint e2.out, rfl⟩
            case measure => simp [intOf]; omega
          · have hd5 : decide ((i : Int) < m) = false := decide_eq_false (by omega)
            have hd5n : decide (i < m) = false := decide_eq_false (by omega)
            have e2 := Lib.hid (HE.out i (by omega) hin)
            go_wp2
            go_ret
            exact ⟨by rw [vint e2.out]; rfl, q, rfl⟩
    · have hd2 : decide ((4096 : Int) < ys.length) = true := decide_eq_true (by omega)
      rw [show mDiffer xs ys = -1 by unfold mDiffer; rw [if_neg fun h => h2 h.2]]
      clear hs hs2
      go_enter Tryd.func44, Tryd.ntmps44
      go_wp2
      go_ret
      exact ⟨rfl, 0, rfl⟩
  · have hd1 : decide ((4096 : Int) < xs.length) = true := decide_eq_true (by omega)
    rw [show mDiffer xs ys = -1 by unfold mDiffer; rw [if_neg fun h => h1 h.1]]
    clear hs hs2
    go_enter Tryd.func44, Tryd.ntmps44
    go_wp2
    go_ret
    exact ⟨rfl, 0, rfl⟩
end Go.Proofs.YtangofjpnhhfeabDoor
namespace Go.Proofs.YtangofjpnhhfeabDoor
open Go.RowKit
/-- A list, a number and a word. -/
def ListIB (w : World) (l : List Int) (d : Int) (b : Bool) (e : Ending) (w' : World) : Prop := ∃ a cap, e = .returned (.tuple #[.slice a l.length cap, .int .i64 d, .bool b]) ∧ l.length ≤ cap ∧ Src w' a l.length (lf l) ∧ Below w.heap.size w w'
theorem dif_int {a b : List Int} (ha : a.length ≤ 4096) (hb : b.length ≤ 4096) : mDiffer a b = (difN a b : Int) := by unfold mDiffer; rw [if_pos ⟨ha, hb⟩]
theorem pow_ten {n : Nat} (h : n ≤ 10) : wrap64 (2 ^ n) = ((2 ^ n : Nat) : Int) ∧ 0 < 2 ^ n ∧ 2 ^ n ≤ 1024 := by
  have : 2 ^ n ≤ 2 ^ 10 := Nat.pow_le_pow_right (by omega) h
  refine ⟨?_, Nat.pow_pos (by omega), by omega⟩
  rw [show (2 : Int) ^ n = ((2 ^ n : Nat) : Int) by rw [Int.natCast_pow]; rfl]
  generalize 2 ^ n = N at *
  exact IntWalk.wrap64_in _ ⟨by omega, by omega⟩
theorem own_lower {w : World} {B B' : Nat} {v : Value} {n : Nat} {xs : List Value} (h : w.ownsRow B 3 1 v n xs) (hB : B' ≤ B) : w.ownsRow B' 3 1 v n xs := by
  obtain ⟨h1, h2⟩ := h
  refine ⟨h1, h2.imp id ?_⟩
  rintro ⟨g, cap, cur, rfl, hg, rest⟩
  exact ⟨g, cap, cur, rfl, by omega, rest⟩
/-- Two rows that grow side by side: one more in the first of them. -/
theorem two_push {B : Nat} {W w3 : World} {v u v' : Value} {m : Nat} {o : Obj} {ys : List Value} (hu : W.ownsRow B 3 1 u m ys) (hd : ∀ k, v.ownBlock = some k → u.ownBlock ≠ some k) (hg : (W.alloc o).grownBy w3 v.ownBlock) (hat : v'.ownBlock = v.ownBlock ∨ v'.ownBlock = some (W.heap.size + 1)) :
    w3.ownsRow B 3 1 u m ys ∧ (∀ k, v'.ownBlock = some k → u.ownBlock ≠ some k) ∧ ∀ k, u.ownBlock = some k → v'.ownBlock ≠ some k := by
  have h2 : ∀ k, v'.ownBlock = some k → u.ownBlock ≠ some k := fun k hk hk2 => by
    rcases hat with h | h
    · exact hd k (h.symm.trans hk) hk2
    · have := (hu.lt k hk2).2
      have e := Option.some.inj (h.symm.trans hk)
      omega
  refine ⟨(hu.alloc o).kept hg ?_, h2, fun k hk hk2 => h2 k hk2 hk⟩
  cases hv : v.ownBlock with
  | none => cases u.ownBlock <;> simp
  | some k => exact .inr (hd k hv)
theorem sel_yes {p : Nat → Bool} (X : Nat → Int) {i : Nat} (h : p i = true) : xsF (lf (selL p X i)) (cntN p i) ++ [.int .i64 (X i)] = xsF (lf (selL p X (i + 1))) (cntN p (i + 1)) ∧ cntN p i + 1 = cntN p (i + 1) := by
  have e : cntN p (i + 1) = cntN p i + 1 := by show cntN p i + (if p i then 1 else 0) = _; rw [if_pos h]
  have eX : selL p X (i + 1) = selL p X i ++ [X i] := by show (if p i then selL p X i ++ [X i] else selL p X i) = _; rw [if_pos h]
  refine ⟨?_, e.symm⟩
  rw [e, ← xsF_succ, eX]
  congr 1
  · exact xsF_congr fun j hj => by rw [lf_app, selL_len, if_pos hj]
  · rw [lf_app, selL_len, if_neg (by omega), if_pos rfl]
theorem sel_no {p : Nat → Bool} (X : Nat → Int) {i : Nat} (h : p i = false) : selL p X (i + 1) = selL p X i ∧ cntN p (i + 1) = cntN p i := by
  constructor
  · show (if p i then selL p X i ++ [X i] else selL p X i) = _; rw [h]; rfl
  · show cntN p i + (if p i then 1 else 0) = _; rw [h]; rfl
theorem two_start (w : World) (p : Nat → Bool) (X Y : Nat → Int) : ((w.alloc (.cells #[] 3)).alloc (.cells #[] 3)).ownsRow w.heap.size 3 1 (.slice (some ⟨w.heap.size, 0, none⟩) 0 0) (cntN p 0) (xsF (lf (selL p X 0)) (cntN p 0)) ∧ ((w.alloc (.cells #[] 3)).alloc (.cells #[] 3)).ownsRow w.heap.size 3 1 (.slice (some ⟨w.heap.size + 1, 0, none⟩) 0 0) (cntN p 0) (xsF (lf (selL p Y 0)) (cntN p 0)) ∧ (∀ k, (Value.slice (some ⟨w.heap.size, 0, none⟩) 0 0).ownBlock = some k → (Value.slice (some ⟨w.heap.size + 1, 0, none⟩) 0 0).ownBlock ≠ some k) ∧ Below w.heap.size w ((w.alloc (.cells #[] 3)).alloc (.cells #[] 3)) := by
  have hsz : (w.alloc (.cells #[] 3)).heap.size = w.heap.size + 1 := by simp
  have b1 : Below w.heap.size w (w.alloc (.cells #[] 3)) := (Below.refl _ _).alloc (Nat.le_refl _) _
  refine ⟨(own_empty w _).alloc _, ?_, fun k h h2 => ?_, b1.alloc (by omega) _⟩
  · have := own_empty (w.alloc (.cells #[] 3)) (lf (selL p Y 0))
    rw [hsz] at this
    exact own_lower this (by omega)
  · have e1 := Option.some.inj h
    have e2 := Option.some.inj h2
    have e1 : w.heap.size = k := e1
    have e2 : w.heap.size + 1 = k := e2
    omega
/-- The i-th bit. -/
theorem bit_shift (s : Nat) : ∀ i, ((s : Int) / 2 ^ i).tmod 2 = if bitP s i then 1 else 0 := fun i => by
  have e : (s : Int) / 2 ^ i = ((s / 2 ^ i : Nat) : Int) := by rw [Int.natCast_ediv, Int.natCast_pow]; rfl
  rw [e]
  unfold bitP
  obtain ⟨d, hd⟩ : ∃ d, s / 2 ^ i = d := ⟨_, rfl⟩
  rw [hd]
  have e2 : ((d : Nat) : Int).tmod 2 = ((d % 2 : Nat) : Int) := by rw [Int.tmod_eq_emod_of_nonneg (by omega)]; omega
  rw [e2]
  rcases Nat.mod_two_eq_zero_or_one d with h | h <;> rw [h] <;> rfl
set_option maxRecDepth 100000 in
set_option maxHeartbeats 1600000 in
theorem decode_c (f : Int) (b off n cap : Nat) (xs : List Int) (b2 off2 cap2 : Nat) (ys : List Int) (k : Nat) (w : World) (hn : xs.length = n) (hny : ys.length = n) (hw : WordOk f xs ys k) (hcap : n ≤ cap)
    (hlt : b < w.heap.size) (hc : ∀ j, j < n → w.cell? ⟨b, off + j, none⟩ = some (.int .i64 (lf xs j))) (hlt2 : b2 < w.heap.size) (hc2 : ∀ j, j < n → w.cell? ⟨b2, off2 + j, none⟩ = some (.int .i64 (lf ys j)))
    (RC : Hid (Calls Tryd.prog 41 #[.int .i64 f, .slice (some ⟨b, off, none⟩) n cap, .int .i64 k] w (DrewB w true))) (RE : Hid (∀ q, Calls Tryd.prog 42 #[.int .i64 f, .slice (some ⟨b2, off2, none⟩) n cap2] (w.drewN q) (SameB (w.drewN q) true))) :
    Calls Tryd.prog 10 #[.int .i64 f, .slice (some ⟨b, off, none⟩) n cap, .slice (some ⟨b2, off2, none⟩) n cap2, .int .i64 k] w fun e w' => (∃ s l, s < 2 ^ n ∧ l = tryL f xs ys k (bitP s) ∧ cntN (bitP s) n = k ∧ difN (encL f xs l) ys ≤ (n - k) / 2 ∧ ListIB w l (difN (encL f xs l) ys : Nat) true e w') ∨ ((∀ s, s < 2 ^ n → cntN (bitP s) n = k → ¬ difN (encL f xs (tryL f xs ys k (bitP s))) ys ≤ (n - k) / 2) ∧ ListIB w [] 0 false e w') := by
  obtain ⟨hf, x1, x10, k1, k10⟩ := code_ok hw.1
  have k2 : k ≤ n := by have := hw.1.2.2.2; omega
  obtain ⟨e2, p0, p10⟩ := pow_ten (n := n) (by omega)
  have HE2 := Lib.hid e2
  obtain ⟨i0, hi, hz0, hz1, hz2⟩ := info_parts info3
  have HI := Lib.hid hi
  have HZ0 := Lib.hid hz0
  have HZ1 := Lib.hid hz1
  have HZ2 := Lib.hid hz2
  clear hi hz0 hz1 hz2
  have hp := hw.1.2.1
  have HTR : Hid (∀ s, cntN (bitP s) n = k → (tryL f xs ys k (bitP s)).length = k ∧ ElsOk f (tryL f xs ys k (bitP s)) ∧ lf (tryL f xs ys k (bitP s)) = lf (lagL f (lf (selL (bitP s) (lf xs) n)) (lf (selL (bitP s) (lf ys) n)) k k)) := Lib.hid fun s hs => by
    rw [← hn] at hs ⊢
    have h1 := tryL_els hf.1 hf.2 hp (by rw [hny, hn]) hw.2.2 (by omega) hs
    refine ⟨h1.1, h1.2, ?_⟩
    unfold tryL
    rw [interL_lag hf.1 hf.2 (by omega) (sel_dist hp _ hs) (sel_els (by rw [hny, hn]) hw.2.2 _ hs)]
    exact funext fun j => lf_padL _ (lagL_len hf.1 hf.2 _ _ (by omega) k) j
  have HLL : Hid (∀ s, cntN (bitP s) n = k → (lagL f (lf (selL (bitP s) (lf xs) n)) (lf (selL (bitP s) (lf ys) n)) k k).length ≤ k) := Lib.hid fun s hs => lagL_len hf.1 hf.2 _ _ (by omega) k
  have HTHR : Hid (∀ s ap cp aq cq W, Src W ap k (lf (selL (bitP s) (lf xs) n)) → Src W aq k (lf (selL (bitP s) (lf ys) n)) → Calls Tryd.prog 43 #[.int .i64 f, .slice ap k cp, .slice aq k cq] W (OwnsL W (lagL f (lf (selL (bitP s) (lf xs) n)) (lf (selL (bitP s) (lf ys) n)) k k))) := Lib.hid fun s ap cp aq cq W h1 h2 => through_c f ap k cp _ aq cq _ W hf (by omega) (by omega) h1 h2
  have HENC : Hid (∀ s, cntN (bitP s) n = k → ∀ W am cm, Below w.heap.size w W → SrcC W am k cm (lf (tryL f xs ys k (bitP s))) → Calls Tryd.prog 38 #[.int .i64 f, .slice (some ⟨b, off, none⟩) n cap, .slice am k cm] W (OwnsL W (encL f xs (tryL f xs ys k (bitP s))))) := Lib.hid fun s hs W am cm hb hm => by
    obtain ⟨h1, h2, _⟩ := HTR.out s hs
    have := enc_on f (some ⟨b, off, none⟩) xs cap am (tryL f xs ys k (bitP s)) cm W (by omega) (by omega) ⟨by omega, by rw [hn]; exact Src.keep (.inr ⟨b, off, rfl, hlt, hc⟩) hb⟩ (by rw [h1]; exact hm) ⟨by rw [h1]; exact hw.1, h2⟩
    rwa [h1, hn] at this
  have HDIF : Hid (∀ E : List Int, E.length = xs.length → ∀ W ae ce, Below w.heap.size w W → Src W ae n (lf E) → Calls Tryd.prog 44 #[.slice ae n ce, .slice (some ⟨b2, off2, none⟩) n cap2] W (DrewI W (difN E ys : Nat))) := Lib.hid fun E hE W ae ce hb hs => by
    have := sDiffer ae E ce (some ⟨b2, off2, none⟩) ys cap2 W (by omega) (by omega) (by rw [hE, hn]; exact hs) (by rw [hny]; exact Src.keep (.inr ⟨b2, off2, rfl, hlt2, hc2⟩) hb)
    rwa [dif_int (by omega) (by omega), hE, hn, hny] at this
  have HC := Lib.hid hc
  have HC2 := Lib.hid hc2
  clear hc hc2 e2
  go_enter Tryd.func10, Tryd.ntmps10
  go_wp2_with fail
  refine RC.out.mono ?_
  rintro e w' ⟨rfl, q0, rfl⟩
  go_wp2_with fail
  refine (RE.out q0).mono ?_
  rintro e w' ⟨rfl, rfl⟩
  go_wp2_with fail
  obtain ⟨N, hN⟩ : ∃ N, 2 ^ n = N := ⟨_, rfl⟩
  have HNN := Lib.hid hN
  rw [hN] at HE2 p0 p10
  clear hN
  go_loopw [12, 13, 14, 15, 16, 17] (fun sv _ _ _ _ _ wr => ∃ s : Nat, sv = .int .i64 s ∧ s ≤ N ∧ Hid (∀ t, t < s → cntN (bitP t) n = k → ¬ difN (encL f xs (tryL f xs ys k (bitP t))) ys ≤ (n - k) / 2) ∧ Below w.heap.size w wr) (fun sv _ _ _ _ _ _ => N - (intOf sv).toNat)
  case atStart => exact ⟨0, rfl, Nat.zero_le _, Lib.hid fun t ht => by omega, below_drewN (Below.refl _ _) _⟩
  case round =>
    obtain ⟨s, rfl, hs, HN, hb⟩ := hrel
    by_cases h1 : s < N
    · have hd1 : decide ((s : Int) < wrap64 (2 ^ n)) = true := decide_eq_true (by rw [HE2.out]; omega)
      generalize wr = W0 at *
      have hW0 := hb.size
      have HP := Lib.hid (bit_shift s)
      have HX := Lib.hid (fun i h => @sel_yes (bitP s) (lf xs) i h)
      have HY := Lib.hid (fun i h => @sel_yes (bitP s) (lf ys) i h)
      have HXN := Lib.hid (fun i h => @sel_no (bitP s) (lf xs) i h)
      have HYN := Lib.hid (fun i h => @sel_no (bitP s) (lf ys) i h)
      have HST := Lib.hid (two_start W0 (bitP s) (lf xs) (lf ys))
      have HCL := Lib.hid (fun i => cntN_le (bitP s) i)
      go_wp2_with fail
      go_loopw [13, 14, 15] (fun v u iv wr2 => ∃ i : Nat, iv = .int .i64 i ∧ i ≤ n ∧ wr2.ownsRow W0.heap.size 3 1 v (cntN (bitP s) i) (xsF (lf (selL (bitP s) (lf xs) i)) (cntN (bitP s) i)) ∧ wr2.ownsRow W0.heap.size 3 1 u (cntN (bitP s) i) (xsF (lf (selL (bitP s) (lf ys) i)) (cntN (bitP s) i)) ∧ Hid (∀ k, v.ownBlock = some k → u.ownBlock ≠ some k) ∧ Below W0.heap.size W0 wr2) (fun _ _ iv _ => n - (intOf iv).toNat)
      case atStart => exact ⟨0, rfl, Nat.zero_le _, HST.out.1, HST.out.2.1, Lib.hid HST.out.2.2.1, HST.out.2.2.2⟩
      case round =>
        clear HST
        obtain ⟨i, rfl, hin, hv, hu, HD, hnx⟩ := hrel
        by_cases h2 : i < n
        · have hd2 : decide ((i : Int) < n) = true := decide_eq_true (by omega)
          have hs2 := hnx.size
          have hbx := below_up hb hnx hW0
          have hcl := HCL.out i
          cases hB : bitP s i
          · have hbit : (((s : Int) / 2 ^ i).tmod 2 == 1) = false := by rw [HP.out i, hB]; rfl
            have e1 := HXN.out i hB
            have e2 := HYN.out i hB
            have HV : Hid (wr.ownsRow W0.heap.size 3 1 _ (cntN (bitP s) (i + 1)) (xsF (lf (selL (bitP s) (lf xs) (i + 1))) (cntN (bitP s) (i + 1)))) := Lib.hid (by rw [e1.1, e1.2]; exact hv)
            have HU : Hid (wr.ownsRow W0.heap.size 3 1 _ (cntN (bitP s) (i + 1)) (xsF (lf (selL (bitP s) (lf ys) (i + 1))) (cntN (bitP s) (i + 1)))) := Lib.hid (by rw [e2.1, e2.2]; exact hu)
            clear hv hu e1 e2
            go_wp2
            go_roundw
            case rel => exact ⟨i + 1, by go_num, by omega, HV.out, HU.out, HD, hnx⟩
            case measure => simp [intOf]; omega
          · have hbit : (((s : Int) / 2 ^ i).tmod 2 == 1) = true := by rw [HP.out i, hB]; rfl
            have e1 := Lib.hid (HX.out i hB)
            have e2 := Lib.hid (HY.out i hB)
            have c1 : wr.cell? ⟨b, off + i, none⟩ = some (.int .i64 (lf xs i)) := (hbx.cell (p := ⟨b, off + i, none⟩) hlt).trans (HC.out i h2)
            have hi0 : (0 : Int) ≤ (i : Int) := by omega
            have hi2 : (i : Int) < n := by omega
            have hge := own_ge hv
            go_wp2_with (at_builtin; refine wpList_append_own_at _ rfl _ _ 22 rfl W0.heap.size 3 i0 (.int .i64 0) 1 8 Tryd.underlying22 HI.out HZ0.out HZ1.out HZ2.out rfl (by decide) _ _ _ rfl (hv.alloc _) ⟨wr.heap.size, 0, none⟩ 1 1 [.int .i64 (lf xs i)] rfl rfl ?c1 ?c2 ?c3 ?c4 ?c5 ?_)
            case c1 => exact cell_one_new _ _ _
            case c2 => intro u hu; simp at hu; subst hu; rfl
            case c3 => unfold maxLen; omega
            case c4 => omega
            case c5 => simp; omega
            intro v3 w3 hv3 hgrow _ hat
            obtain ⟨hu3, hd3, hd4⟩ := two_push hu HD.out hgrow hat
            have hb3 : Below W0.heap.size W0 w3 := (hnx.alloc hs2 _).grown hgrow (by simp; omega) hge
            rw [e1.out.1, e1.out.2] at hv3
            have hs3 := hb3.size
            have hbx3 := below_up hb hb3 hW0
            have c2 : w3.cell? ⟨b2, off2 + i, none⟩ = some (.int .i64 (lf ys i)) := (hbx3.cell (p := ⟨b2, off2 + i, none⟩) hlt2).trans (HC2.out i h2)
            have HV3 := Lib.hid hv3
            have HD4 := Lib.hid hd4
            have hge3 := own_ge hu3
            clear hv hu hgrow hat c1 hbx hnx e1 hge hd3 HD hv3 hd4
            go_wp2_with (at_builtin; refine wpList_append_own_at _ rfl _ _ 22 rfl W0.heap.size 3 i0 (.int .i64 0) 1 8 Tryd.underlying22 HI.out HZ0.out HZ1.out HZ2.out rfl (by decide) _ _ _ rfl (hu3.alloc _) ⟨w3.heap.size, 0, none⟩ 1 1 [.int .i64 (lf ys i)] rfl rfl ?d1 ?d2 ?d3 ?d4 ?d5 ?_)
            case d1 => exact cell_one_new _ _ _
            case d2 => intro u hu; simp at hu; subst hu; rfl
            case d3 => unfold maxLen; omega
            case d4 => omega
            case d5 => simp; omega
            intro u5 w5 hu5 hgrow2 _ hat2
            obtain ⟨hv5, hd5, hd6⟩ := two_push HV3.out HD4.out hgrow2 hat2
            have hb5 : Below W0.heap.size W0 w5 := (hb3.alloc hs3 _).grown hgrow2 (by simp; omega) hge3
            rw [e2.out.1, e2.out.2] at hu5
            have HD6 := Lib.hid hd6
            clear hu3 hgrow2 hat2 HV3 HD4 c2 e2 hd5 hd6 hge3
            go_wp2
            go_roundw
            case rel => exact ⟨i + 1, by go_num, by omega, hv5, hu5, HD6, hb5⟩
            case measure => simp [intOf]; omega
        · have hd2 : decide ((i : Int) < n) = false := decide_eq_false (by omega)
          obtain rfl : i = n := by omega
          obtain ⟨ap, cp, rfl, hcp, hsp⟩ := src_of_owns2 hv
          obtain ⟨aq, cq, rfl, hcq, hsq⟩ := src_of_owns2 hu
          have HSP := Lib.hid hsp
          have HSQ := Lib.hid hsq
          have hbx := below_up hb hnx hW0
          clear hv hu HD hcq hcp hsp hsq hb hnx hin HX HY HXN HYN HP HCL
          generalize wr = W1 at *
          generalize hcn : cntN (bitP s) i = c at *
          by_cases hk : c = k
          · have hk2 : k = c := hk.symm
            subst hk2
            have hd3 : ((k : Int) != k) = false := by simp
            clear hk
            have hk := hcn
            clear hcn
            obtain ⟨hT, hTe, hTL⟩ := HTR.out s hk
            have hLk := HLL.out s hk
            have HTH := HTHR.out s ap cp aq cq W1
            have HE := Lib.hid (HENC.out s hk)
            have HELN : Hid ((encL f xs (tryL f xs ys k (bitP s))).length = i) := Lib.hid ((encL_len _ _ _).trans hn)
            have HDF := Lib.hid (HDIF.out (encL f xs (tryL f xs ys k (bitP s))) (encL_len _ _ _))
            have HEL := Lib.hid (HTH HSP.out HSQ.out)
            have HZL := Lib.hid (fun j h => (lf_out (lagL f (lf (selL (bitP s) (lf xs) i)) (lf (selL (bitP s) (lf ys) i)) k k) (j := j) h))
            have HNX : Hid (¬ difN (encL f xs (tryL f xs ys k (bitP s))) ys ≤ (i - k) / 2 → ∀ t, t < s + 1 → cntN (bitP t) i = k → ¬ difN (encL f xs (tryL f xs ys k (bitP t))) ys ≤ (i - k) / 2) := Lib.hid fun hd t ht hc => by
              by_cases e : t < s
              · exact HN.out t e hc
              · obtain rfl : t = s := by omega
                exact hd
            have HTLF : Hid (lf (tryL f xs ys k (bitP s)) = lf (lagL f (lf (selL (bitP s) (lf xs) i)) (lf (selL (bitP s) (lf ys) i)) k k)) := Lib.hid hTL
            have HTLEN := Lib.hid hT
            have HRES : Hid (∀ e w', difN (encL f xs (tryL f xs ys k (bitP s))) ys ≤ (i - k) / 2 → ListIB w (tryL f xs ys k (bitP s)) (difN (encL f xs (tryL f xs ys k (bitP s))) ys : Nat) true e w' → (∃ s l, s < 2 ^ i ∧ l = tryL f xs ys k (bitP s) ∧ cntN (bitP s) i = k ∧ difN (encL f xs l) ys ≤ (i - k) / 2 ∧ ListIB w l (difN (encL f xs l) ys : Nat) true e w')) := Lib.hid fun e w' hd hl => ⟨s, _, by rw [HNN.out]; exact h1, rfl, hk, hd, hl⟩
            have HDD : Hid (difN (encL f xs (tryL f xs ys k (bitP s))) ys ≤ 10) := Lib.hid (by
              rw [difN_same (by rw [encL_len, hny, hn])]
              have := cntN_le (fun j => lf (encL f xs (tryL f xs ys k (bitP s))) j != lf ys j) (encL f xs (tryL f xs ys k (bitP s))).length
              rw [encL_len, hn] at this ⊢
              omega)
            clear hT hTe hTL HTH HN HSP HSQ hk
            generalize lagL f (lf (selL (bitP s) (lf xs) i)) (lf (selL (bitP s) (lf ys) i)) k k = L at *
            generalize tryL f xs ys k (bitP s) = T at *
            generalize difN (encL f xs T) ys = dd at *
            generalize encL f xs T = EL at *
            have hs1 := hbx.size
            go_wp2_with fail
            refine HEL.out.mono ?_
            intro e w4 h4
            obtain ⟨m0, rfl, ho4, hb4⟩ := h4
            obtain ⟨a4, c4, rfl, hc4, _⟩ := src_of_owns2 ho4
            clear HEL
            go_wp2_with fail
            go_loopw [16] (fun mv wr3 => ∃ (j : Nat) (am : Option Addr) (cm : Nat), mv = .slice am j cm ∧ L.length ≤ j ∧ j ≤ k ∧ wr3.ownsRow W1.heap.size 3 1 (.slice am j cm) j (xsF (lf L) j) ∧ Below W1.heap.size W1 wr3) (fun mv _ => k - (match mv with | .slice _ n _ => n | _ => 0))
            case atStart => exact ⟨L.length, a4, c4, rfl, Nat.le_refl _, hLk, ho4, hb4⟩
            case round =>
              clear ho4 hb4 hc4
              obtain ⟨j, am, cm, rfl, hj1, hj2, ho, hb5⟩ := hrel
              have hs5 := hb5.size
              by_cases h5 : j < k
              · have hd5 : decide ((j : Int) < k) = true := decide_eq_true (by omega)
                have hge := own_ge ho
                go_wp2_with (at_builtin; refine wpList_append_own _ rfl _ _ 22 rfl W1.heap.size 3 i0 (.int .i64 0) 1 8 Tryd.underlying22 HI.out HZ0.out HZ1.out HZ2.out rfl (by decide) _ _ _ rfl (ho.alloc _) ⟨wr.heap.size, 0, none⟩ 1 1 [.int .i64 0] rfl rfl ?f1 ?f2 ?f3 ?f4 ?f5 ?_)
                case f1 => exact cell_one_new _ _ _
                case f2 => intro u hu; simp at hu; subst hu; rfl
                case f3 => unfold maxLen; omega
                case f4 => omega
                case f5 => simp; omega
                intro v6 w6 hv6 hgrow _
                have hb6 : Below W1.heap.size W1 w6 := (hb5.alloc hs5 _).grown hgrow (by simp; omega) hge
                rw [show ([.int .i64 0] : List Value) = [.int .i64 (lf L j)] by rw [HZL.out j hj1], xsF_succ (lf L)] at hv6
                obtain ⟨a6, c6, rfl, _, _⟩ := src_of_owns2 hv6
                clear hgrow ho hge
                go_wp2
                go_roundw
                case rel => exact ⟨j + 1, a6, c6, rfl, by omega, by omega, hv6, hb6⟩
                case measure => simp; omega
              · have hd5 : decide ((j : Int) < k) = false := decide_eq_false (by omega)
                obtain rfl : j = k := by omega
                obtain ⟨am2, cm2, hav, hcm, hsm⟩ := src_of_owns2 ho
                obtain ⟨rfl, rfl⟩ : am2 = am ∧ cm2 = cm := by injection hav with e1 e2 e3; exact ⟨e1.symm, e3.symm⟩
                have HSM := Lib.hid hsm
                have hb7 := below_up hbx hb5 hs1
                have HE5 := Lib.hid (HE.out wr am2 cm2 hb7 ⟨hcm, by rw [HTLF.out]; exact hsm⟩)
                clear ho hav hsm HE HZL
                go_wp2_with fail
                refine HE5.out.mono ?_
                intro e w8 h8
                have hrm := h8.room
                rw [HELN.out] at hrm
                obtain ⟨ae, ce, rfl, se, hb8⟩ := hrm
                have hb9 := below_up hb7 hb8 hb7.size
                have HD9 := Lib.hid (HDF.out w8 ae ce hb9 se.2)
                have HSM9 := Lib.hid (HSM.out.keep hb8)
                have hdd := HDD.out
                clear h8 se hb8 HE5 HSM HDF hb7 hb5 hbx HELN HENC HDIF HTR HLL HTHR
                go_wp2_with fail
                refine HD9.out.mono ?_
                rintro e w10 ⟨rfl, q, rfl⟩
                clear HD9
                by_cases h9 : dd ≤ (i - j) / 2
                · have hd6 : decide ((dd : Int) ≤ ((i : Int) - j).tdiv 2) = true := decide_eq_true (by rw [Int.tdiv_eq_ediv_of_nonneg (by omega)]; omega)
                  have hd7 : decide ((dd : Int) ≤ ((i : Int) - j) / 2) = true := decide_eq_true (by omega)
                  have HR : Hid (Src (w8.drewN q) am2 j (lf L)) := Lib.hid (HSM9.out.keep (below_drewN (Below.refl _ _) q))
                  have hb10 := below_drewN hb9 q
                  go_wp2
                  go_ret3
                  refine .inl (HRES.out _ _ h9 ⟨am2, cm2, by rw [HTLEN.out]; rfl, by rw [HTLEN.out]; exact hcm, ?_, hb10⟩)
                  rw [HTLEN.out, HTLF.out]
                  exact HR.out
                · have hd6 : decide ((dd : Int) ≤ ((i : Int) - j).tdiv 2) = false := decide_eq_false (by rw [Int.tdiv_eq_ediv_of_nonneg (by omega)]; omega)
                  have hd7 : decide ((dd : Int) ≤ ((i : Int) - j) / 2) = false := decide_eq_false (by omega)
                  have HN3 := Lib.hid (HNX.out h9)
                  have hb10 := below_drewN hb9 q
                  go_wp2
                  go_roundw
                  case rel => exact ⟨s + 1, by go_num, by omega, HN3, hb10⟩
                  case measure => simp [intOf]; omega
          · have hd3 : ((c : Int) != k) = true := by rw [bne_iff_ne]; omega
            have HN2 : Hid (∀ t, t < s + 1 → cntN (bitP t) i = k → ¬ difN (encL f xs (tryL f xs ys k (bitP t))) ys ≤ (i - k) / 2) := Lib.hid fun t ht hc => by
              by_cases e : t < s
              · exact HN.out t e hc
              · obtain rfl : t = s := by omega
                exact absurd (hcn.symm.trans hc) hk
            clear HSP HSQ HN
            go_wp2
            go_roundw
            case rel => exact ⟨s + 1, by go_num, by omega, HN2, hbx⟩
            case measure => simp [intOf]; omega
    · have hd1 : decide ((s : Int) < wrap64 (2 ^ n)) = false := decide_eq_false (by rw [HE2.out]; omega)
      go_wp2_with fail
      go_ret3
      refine .inr ⟨fun t ht => HN.out t (by rw [HNN.out] at ht; omega), none, 0, rfl, Nat.zero_le _, .inl rfl, hb⟩
end Go.Proofs.YtangofjpnhhfeabDoor
namespace Go.Proofs.YtangofjpnhhfeabDoor
theorem toNat_nat (k : Nat) : ((k : Nat) : Int).toNat = k := Int.toNat_natCast k
/-- A word that is bent at few places is read back, and the places are found. -/
theorem bent_back {f : Int} {xs m y : List Int} (h : EncOk f xs m) (hy : y.length = xs.length) (he : ElsOk f y) (p : Nat → Bool) (hp : ∀ i, i < xs.length → (lf (encL f xs m) i != lf y i) = p i) (hc : cntN p xs.length ≤ (xs.length - m.length) / 2) :
    DecOk f xs y (m.length : Int) ∧ mDecodeWord0 f xs y (m.length : Int) = m ∧ mDecodeWord1 f xs y (m.length : Int) = (cntN p xs.length : Nat) ∧ mDecodeWord2 f xs y (m.length : Int) = true ∧ mBlame f xs y (m.length : Int) = selL p (fun i => (i : Int)) xs.length ∧ difN (encL f xs m) y = cntN p xs.length := by
  have hw : WordOk f xs y (m.length : Int) := ⟨h.1, hy, he⟩
  have hd : difN (encL f xs m) y = cntN p xs.length := by
    rw [difN_same (by rw [encL_len, hy]), encL_len]
    exact cntN_congr hp
  have hq : QDec f xs y m.length m := ⟨rfl, h.2, by rw [hd]; exact hc⟩
  have hk : m.length ≤ xs.length := by have := h.1.2.2.2; omega
  have e : ((m.length : Nat) : Int).toNat = m.length := toNat_nat _
  have hdec : DecOk f xs y (m.length : Int) := ⟨hw, m, by rw [e]; exact hq⟩
  have hm : decL f xs y m.length = m := decL_eq h.1.2.1 hy hk hq
  refine ⟨hdec, ?_, ?_, ?_, ?_, hd⟩
  · unfold mDecodeWord0
    rw [if_pos hdec, e, hm]
  · unfold mDecodeWord1
    rw [if_pos hdec, e, hm, hd]
  · unfold mDecodeWord2
    simp [hdec]
  · unfold mBlame blameL
    rw [if_pos hdec, e, hm]
    exact selL_congr _ hp
/-- The points that are left. -/
theorem left_pts {f : Int} {xs : List Int} (hp : PtsOk f xs) (q : Nat → Bool) (h1 : 1 ≤ cntN q xs.length) : PtsOk f (selL q (lf xs) xs.length) := by
  obtain ⟨s, s1, s2, s3, _⟩ := sel_idx q xs.length
  have hl := selL_len q (lf xs) xs.length
  have hle := cntN_le q xs.length
  refine ⟨hp.1, ⟨by omega, by have := hp.2.1.2; omega⟩, fun j hj => ?_, fun i j hij hj => ?_⟩
  · rw [s3 _ j (by omega)]
    exact hp.2.2.1 _ (s1 j (by omega)).1
  · rw [s3 _ j (by omega), s3 _ i (by omega)]
    exact hp.2.2.2 _ _ (s2 i j hij (by omega)) (s1 j (by omega)).1
/-- What is left of a word is the word over the points that are left. -/
theorem left_enc {f : Int} {xs m y : List Int} (q : Nat → Bool) (hq : ∀ i, i < xs.length → q i = true → lf y i = lf (encL f xs m) i) : selL q (lf y) xs.length = encL f (selL q (lf xs) xs.length) m := by
  obtain ⟨s, s1, s2, s3, _⟩ := sel_idx q xs.length
  have hl := selL_len q (lf xs) xs.length
  have hl2 := selL_len q (lf y) xs.length
  refine list_ext (by rw [encL_len, hl, hl2]) fun j hj => ?_
  rw [hl2] at hj
  rw [s3 _ j hj, encL_at (by omega), s3 _ j hj, hq _ (s1 j hj).1 (s1 j hj).2, encL_at (s1 j hj).1]
/-- Erased symbols are made good. -/
theorem gaps_back {f : Int} {xs m y gone : List Int} (h : EncOk f xs m) (hy : y.length = xs.length) (hg : GapsOk f xs y (m.length : Int) gone) (hk : m.length ≤ cntN (fun i : Nat => !hasL gone (i : Int)) xs.length) (hq : ∀ i : Nat, i < xs.length → hasL gone (i : Int) = false → lf y i = lf (encL f xs m) i) :
    mDecodeGaps0 f xs y (m.length : Int) gone = m ∧ mDecodeGaps1 f xs y (m.length : Int) gone = 0 ∧ mDecodeGaps2 f xs y (m.length : Int) gone = true := by
  have hk1 : 1 ≤ m.length := by have := h.1.2.2.1; omega
  have hle := cntN_le (fun i : Nat => !hasL gone (i : Int)) xs.length
  have hl := selL_len (fun i : Nat => !hasL gone (i : Int)) (lf xs) xs.length
  have hpts := left_pts h.1.2.1 (fun i : Nat => !hasL gone (i : Int)) (by omega)
  have hcode : CodeOk f (selL (fun i : Nat => !hasL gone (i : Int)) (lf xs) xs.length) (m.length : Int) := ⟨by have := h.1.1; omega, hpts, by omega, by omega⟩
  have hw := left_enc (f := f) (xs := xs) (m := m) (y := y) (fun i : Nat => !hasL gone (i : Int)) fun i hi e => hq i hi (by simpa using e)
  have hb := bent_back (f := f) (xs := selL (fun i : Nat => !hasL gone (i : Int)) (lf xs) xs.length) (m := m) (y := encL f (selL (fun i : Nat => !hasL gone (i : Int)) (lf xs) xs.length) m) ⟨hcode, h.2⟩ (encL_len _ _ _) (encL_els h.1.2.1.1.1 h.1.2.1.1.2 _ _) (fun _ => false) (fun i _ => by simp) (by
    have : ∀ n, cntN (fun _ => false) n = 0 := fun n => by
      induction n with
      | zero => rfl
      | succ n ih => show cntN (fun _ => false) n + (if false then 1 else 0) = 0; rw [ih]; rfl
    rw [this]; omega)
  have h0 : ∀ n, cntN (fun _ => false) n = 0 := fun n => by
    induction n with
    | zero => rfl
    | succ n ih => show cntN (fun _ => false) n + (if false then 1 else 0) = 0; rw [ih]; rfl
  rw [h0] at hb
  obtain ⟨_, b0, b1, b2, _⟩ := hb
  unfold mDecodeGaps0 mDecodeGaps1 mDecodeGaps2 leftL
  rw [if_pos hg, if_pos hg, if_pos hg, hw]
  exact ⟨b0, b1, b2⟩
end Go.Proofs.YtangofjpnhhfeabDoor
namespace Go.Proofs.YtangofjpnhhfeabDoor
theorem lf_oneL : lf [1] = oneS := funext fun j => by
  match j with
  | 0 => rfl
  | j + 1 => rfl
theorem emm (x p : Int) : x % p % p = x % p := Int.emod_emod_of_dvd _ (Int.dvd_refl _)
theorem mulL_one {f : Int} (h0 : 0 ≤ f) (h8 : f ≤ 8) {a : List Int} (ha : Pol f a) : mulL f a [1] = a := by
  refine Pol.eq (pol_mulL h0 h8 _ _) ha fun j => ?_
  rw [lf_mulL, emm, cv_comm, lf_oneL]
  have := congrFun (one_mul (lf a)) j
  show mulS oneS (lf a) j % P f = _
  rw [this]
theorem one_mulL {f : Int} (h0 : 0 ≤ f) (h8 : f ≤ 8) {a : List Int} (ha : Pol f a) : mulL f [1] a = a := by rw [mulL_comm, mulL_one h0 h8 ha]
theorem mulL_assoc {f : Int} (h0 : 0 ≤ f) (h8 : f ≤ 8) (a b c : List Int) : mulL f (mulL f a b) c = mulL f a (mulL f b c) := by
  refine Pol.eq (pol_mulL h0 h8 _ _) (pol_mulL h0 h8 _ _) fun j => ?_
  rw [lf_mulL, lf_mulL, emm, emm]
  have h1 : cv j (lf (mulL f a b)) (lf c) % P f = cv j (mulS (lf a) (lf b)) (lf c) % P f := cv_mod j (fun i => by rw [lf_mulL, emm]; rfl) (fun _ => rfl)
  have h2 : cv j (lf a) (lf (mulL f b c)) % P f = cv j (lf a) (mulS (lf b) (lf c)) % P f := cv_mod j (fun _ => rfl) (fun i => by rw [lf_mulL, emm]; rfl)
  rw [h1, h2, cv_assoc]
theorem vanL_congr {f : Int} {X Y : Nat → Int} : ∀ {n : Nat}, (∀ i, i < n → X i = Y i) → vanL f X n = vanL f Y n
  | 0, _ => rfl
  | n + 1, h => by
    show mulL f (vanL f X n) (linL f (X n)) = mulL f (vanL f Y n) (linL f (Y n))
    rw [vanL_congr fun i hi => h i (by omega), h n (by omega)]
theorem pdZ_congr {x : Int} {X Y : Nat → Int} : ∀ {n : Nat}, (∀ i, i < n → X i = Y i) → pdZ x X n = pdZ x Y n
  | 0, _ => rfl
  | n + 1, h => by
    show pdZ x X n * (x - X n) = pdZ x Y n * (x - Y n)
    rw [pdZ_congr fun i hi => h i (by omega), h n (by omega)]
theorem vanL_add {f : Int} (h0 : 0 ≤ f) (h8 : f ≤ 8) (X : Nat → Int) (m : Nat) : ∀ n, vanL f X (m + n) = mulL f (vanL f X m) (vanL f (fun j => X (m + j)) n)
  | 0 => (mulL_one h0 h8 (vanL_pol h0 h8 X m)).symm
  | n + 1 => by
    show mulL f (vanL f X (m + n)) (linL f (X (m + n))) = mulL f (vanL f X m) (mulL f (vanL f (fun j => X (m + j)) n) (linL f (X (m + n))))
    rw [vanL_add h0 h8 X m n, mulL_assoc h0 h8]
theorem pdZ_add (x : Int) (X : Nat → Int) (m : Nat) : ∀ n, pdZ x X (m + n) = pdZ x X m * pdZ x (fun j => X (m + j)) n
  | 0 => (Int.mul_one _).symm
  | n + 1 => by
    show pdZ x X (m + n) * (x - X (m + n)) = pdZ x X m * (pdZ x (fun j => X (m + j)) n * (x - X (m + n)))
    rw [pdZ_add x X m n, Int.mul_assoc]
theorem vanL_leaf {f : Int} (h0 : 0 ≤ f) (h8 : f ≤ 8) (X : Nat → Int) : vanL f X 1 = linL f (X 0) := one_mulL h0 h8 (linL_pol h0 h8 _)
/-- One factor moved to the end. -/
theorem vanL_out {f : Int} (h0 : 0 ≤ f) (h8 : f ≤ 8) (X : Nat → Int) (i : Nat) : ∀ n, i ≤ n → vanL f X (n + 1) = mulL f (vanL f (othS X i) n) (linL f (X i))
  | 0, h => by
    obtain rfl : i = 0 := by omega
    rfl
  | n + 1, h => by
    show mulL f (vanL f X (n + 1)) (linL f (X (n + 1))) = _
    by_cases e : i = n + 1
    · subst e
      rw [vanL_congr (X := othS X (n + 1)) (Y := X) fun j hj => if_pos hj]
    · rw [vanL_out h0 h8 X i n (by omega)]
      show _ = mulL f (mulL f (vanL f (othS X i) n) (linL f (othS X i n))) (linL f (X i))
      have e2 : othS X i n = X (n + 1) := if_neg (by omega)
      rw [e2, mulL_assoc h0 h8, mulL_assoc h0 h8, mulL_comm f (linL f (X i))]
theorem lf_derL (f : Int) (a : List Int) (j : Nat) : lf (derL f a) j = (((j : Int) + 1) * lf a (j + 1)) % P f := by
  unfold derL
  rw [lf_cutL]
  split
  · rfl
  · rw [lf_out a (by omega), Int.mul_zero]; rfl
theorem der_sum (c : Int) (G : Nat → Int) : ∀ n : Nat, evN c (fun j => ((j : Int) + 1) * (G (j + 1) * (-c) + G j)) n = evN c G n - n * G n * c ^ n
  | 0 => by simp [evN, sumN]
  | n + 1 => by
    have ih := der_sum c G n
    unfold evN at ih ⊢
    show sumN _ n + ((n : Int) + 1) * (G (n + 1) * (-c) + G n) * c ^ n = (sumN _ n + G n * c ^ n) - ((n + 1 : Nat) : Int) * G (n + 1) * c ^ (n + 1)
    rw [ih, Int.pow_succ]
    obtain ⟨S, hS⟩ : ∃ S, sumN (fun i => G i * c ^ i) n = S := ⟨_, rfl⟩
    obtain ⟨C, hC⟩ : ∃ C, c ^ n = C := ⟨_, rfl⟩
    rw [hS, hC]
    have e1 : ((n : Int) + 1) * (G (n + 1) * (-c) + G n) * C = -(((n : Int) + 1) * G (n + 1) * (C * c)) + (n * G n * C + G n * C) := by
      rw [Int.mul_add, Int.add_mul, Int.mul_neg, Int.mul_neg, Int.neg_mul]
      congr 1
      · congr 1
        rw [← Int.mul_assoc, Int.mul_assoc _ c C, Int.mul_comm c C]
      · rw [Int.add_mul, Int.add_mul, Int.one_mul]
    rw [e1]
    push_cast
    omega
/-- The derivative of a product with x - c at c. -/
theorem der_at {f : Int} (_h0 : 0 ≤ f) (_h8 : f ≤ 8) (c : Int) (g : List Int) : evL f c (derL f (mulL f g (linL f c))) = evL f c g := by
  have l1 := mulL_le f g (linL f c)
  have l2 := derL_le f (mulL f g (linL f c))
  have l3 : (linL f c).length = 2 := rfl
  rw [evL_n (n := g.length) (by omega)]
  unfold evL RS
  have e1 : evN c (lf (derL f (mulL f g (linL f c)))) g.length % P f = evN c (fun j => ((j : Int) + 1) * (lf g (j + 1) * (-c) + lf g j)) g.length % P f := evN_mod _ rfl fun j => by
    rw [lf_derL, emm]
    refine emod_mul_congr rfl ?_
    rw [lf_mulL, emm, cv_right]
    have e2 : tl (lf (linL f c)) = lf [1] := funext fun j => by
      match j with
      | 0 => rfl
      | j + 1 => rfl
    rw [e2, lf_oneL, cv_comm]
    have e3 : cv j oneS (lf g) = lf g j := congrFun (one_mul (lf g)) j
    rw [e3]
    refine emod_add_congr (emod_mul_congr rfl ?_) rfl
    show RS (0 - c) (P f) % P f = _
    unfold RS
    rw [emm, Int.zero_sub]
  rw [e1, der_sum, lf_out g (Nat.le_refl _)]
  simp
/-- The derivative of the product at one of its points. -/
theorem der_van {f : Int} (h0 : 0 ≤ f) (h8 : f ≤ 8) (X : Nat → Int) {n i : Nat} (hi : i < n) : evL f (X i) (derL f (vanL f X n)) = byF f X i n := by
  obtain ⟨m, rfl⟩ : ∃ m, n = m + 1 := ⟨n - 1, by omega⟩
  rw [vanL_out h0 h8 X i m (by omega), der_at h0 h8, vanL_ev h0 h8]
  have h1 := byF_hi f X i (m + 1) hi
  have hb := byF_bd h0 h8 X i (m + 1)
  rw [Int.emod_eq_of_lt hb.1 hb.2] at h1
  rw [h1]
  rfl
theorem invF_pow {f x : Int} (h : x % P f ≠ 0) : invF f x = mPower f x (-1) := by
  unfold invF RS
  rw [if_neg h]
theorem inv_van {f : Int} (h0 : 0 ≤ f) (h8 : f ≤ 8) {X : Nat → Int} {n i : Nat} (hd : DistinctS f X n) (hi : i < n) : invF f (evL f (X i) (derL f (vanL f X n))) = mPower f (byF f X i n) (-1) := by
  rw [der_van h0 h8 X hi, invF_pow (byF_ne h0 h8 hd hi)]
/-- A multiple of b changes no value where b vanishes. -/
theorem evL_rem {f x : Int} (h0 : 0 ≤ f) (h8 : f ≤ 8) {a b : List Int} (ha : Pol f a) (hb : Pol f b) (hz : b.length ≠ 0) (hx : evL f x b = 0) : evL f x (remL f a b) = evL f x a := by
  have hd := div_is h0 h8 ha hb hz
  have h1 := div_back h0 h8 ha hd
  have h2 : evL f x (addL f (mulL f (quoL f a b) b) (remL f a b)) = evL f x a := by rw [h1]
  rw [evL_add, evL_mul, hx, Int.mul_zero] at h2
  rw [← h2]
  have e : RS 0 (P f) = 0 := Int.zero_emod _
  rw [e, Int.zero_add]
  unfold evL RS
  rw [emm]
theorem van_at {f : Int} (h0 : 0 ≤ f) (h8 : f ≤ 8) (X : Nat → Int) {n i : Nat} (hi : i < n) : evL f (X i) (vanL f X n) = 0 := by
  rw [vanL_ev h0 h8, pdZ_zero hi rfl]
  exact Int.zero_emod _
theorem remL_pol {f : Int} (h0 : 0 ≤ f) (h8 : f ≤ 8) {a b : List Int} (ha : Pol f a) (hb : Pol f b) (hz : b.length ≠ 0) : Pol f (remL f a b) := (remL_is h0 h8 ha hb hz).1
/-- The values of a polynomial at n points. -/
def valsL (f : Int) (X : Nat → Int) (a : List Int) (n : Nat) : List Int := tab n fun i => evL f (X i) a
theorem valsL_len (f : Int) (X : Nat → Int) (a : List Int) (n : Nat) : (valsL f X a n).length = n := tab_len _ _
theorem lf_valsL {f : Int} {X : Nat → Int} {a : List Int} {n i : Nat} (h : i < n) : lf (valsL f X a n) i = evL f (X i) a := by unfold valsL; rw [lf_tab, if_pos h]
theorem valsL_rem {f : Int} (h0 : 0 ≤ f) (h8 : f ≤ 8) (X : Nat → Int) {a : List Int} (ha : Pol f a) {n m : Nat} (hm : m ≤ n) : valsL f X (remL f a (vanL f X n)) m = valsL f X a m :=
  tab_congr fun j hj => evL_rem h0 h8 ha (vanL_pol h0 h8 X n) (by rw [vanL_len h0 h8]; omega) (van_at h0 h8 X (by omega))
theorem valsL_part {f : Int} (h0 : 0 ≤ f) (h8 : f ≤ 8) (X : Nat → Int) {a : List Int} (ha : Pol f a) {m n : Nat} : valsL f (fun j => X (m + j)) (remL f a (vanL f X (m + n))) n = valsL f (fun j => X (m + j)) a n :=
  tab_congr fun j hj => evL_rem (x := X (m + j)) h0 h8 ha (vanL_pol h0 h8 X _) (by rw [vanL_len h0 h8]; omega) (van_at h0 h8 X (by omega))
/-- The rest at a leaf is the value. -/
theorem leaf_val {f : Int} (h0 : 0 ≤ f) (h8 : f ≤ 8) (X : Nat → Int) {a : List Int} (ha : Pol f a) : (remL f a (vanL f X 1)).length ≤ 1 ∧ padL (remL f a (vanL f X 1)) 1 = valsL f X a 1 := by
  have hl : (vanL f X 1).length = 2 := vanL_len h0 h8 X 1
  have h1 : (remL f a (vanL f X 1)).length < 2 := by have := remL_len (f := f) (a := a) (b := vanL f X 1) (by omega); omega
  refine ⟨by omega, list_ext (by rw [padL_len, valsL_len]) fun j hj => ?_⟩
  rw [padL_len] at hj
  obtain rfl : j = 0 := by omega
  rw [lf_padL _ (by omega), ← valsL_rem h0 h8 X ha (Nat.le_refl 1), lf_valsL (by omega), evL_n (n := 1) (by omega)]
  have hb := (remL_pol h0 h8 ha (vanL_pol h0 h8 X 1) (by omega)).1 0
  obtain ⟨v, hv⟩ : ∃ v, lf (remL f a (vanL f X 1)) 0 = v := ⟨_, rfl⟩
  rw [hv] at hb ⊢
  have e : evN (X 0) (lf (remL f a (vanL f X 1))) 1 = v := by
    show 0 + lf (remL f a (vanL f X 1)) 0 * X 0 ^ 0 = v
    rw [hv, Int.pow_zero, Int.mul_one, Int.zero_add]
  rw [e]
  exact (Int.emod_eq_of_lt hb.1 hb.2).symm
/-- The sum of the shares, each times the product over the other points. -/
def CombAt (f : Int) (X s : Nat → Int) (n : Nat) (c : List Int) : Prop := Pol f c ∧ c.length ≤ n ∧ ∀ j, j < n → evL f (X j) c = RS (s j * pdZ (X j) (othS X j) (n - 1)) (P f)
theorem comb_leaf {f : Int} (h0 : 0 ≤ f) (h8 : f ≤ 8) (X s : Nat → Int) (hs : 0 ≤ s 0 ∧ s 0 < P f) : CombAt f X s 1 (cutL 1 fun _ => s 0) := by
  refine ⟨Pol.cut (P_pos h0 h8) fun _ _ => hs, cutL_le _ _, fun j hj => ?_⟩
  obtain rfl : j = 0 := by omega
  rw [evL_one]
  show _ = RS (s 0 * 1) (P f)
  rw [Int.mul_one]
theorem comb_node {f : Int} (h0 : 0 ≤ f) (h8 : f ≤ 8) {X s : Nat → Int} {m k : Nat} (m1 : 1 ≤ m) (k1 : 1 ≤ k) {l r : List Int} (hl : CombAt f X s m l) (hr : CombAt f (fun j => X (m + j)) (fun j => s (m + j)) k r) :
    CombAt f X s (m + k) (addL f (mulL f l (vanL f (fun j => X (m + j)) k)) (mulL f (vanL f X m) r)) := by
  have v1 := vanL_len h0 h8 X m
  have v2 := vanL_len h0 h8 (fun j => X (m + j)) k
  have a1 := mulL_le f l (vanL f (fun j => X (m + j)) k)
  have a2 := mulL_le f (vanL f X m) r
  have a3 := addL_le f (mulL f l (vanL f (fun j => X (m + j)) k)) (mulL f (vanL f X m) r)
  have b1 := hl.2.1
  have b2 := hr.2.1
  refine ⟨pol_addL h0 h8 _ _, by omega, fun j hj => ?_⟩
  rw [evL_add, evL_mul, evL_mul]
  by_cases hjm : j < m
  · rw [hl.2.2 j hjm, van_at h0 h8 X hjm, Int.zero_mul, vanL_ev h0 h8]
    have e : pdZ (X j) (othS X j) (m + k - 1) = pdZ (X j) (othS X j) (m - 1) * pdZ (X j) (fun j => X (m + j)) k := by
      rw [show m + k - 1 = (m - 1) + k by omega, pdZ_add]
      congr 1
      refine pdZ_congr fun i _ => ?_
      show othS X j (m - 1 + i) = X (m + i)
      unfold othS
      rw [if_neg (by omega), show m - 1 + i + 1 = m + i by omega]
    rw [e]
    unfold RS
    rw [Int.zero_emod, Int.add_zero, emm, ← Int.mul_emod, Int.mul_assoc]
  · obtain ⟨t, rfl⟩ : ∃ t, j = m + t := ⟨j - m, by omega⟩
    have ht : t < k := by omega
    have hz : evL f (X (m + t)) (vanL f (fun j => X (m + j)) k) = 0 := van_at h0 h8 (fun j => X (m + j)) ht
    have hv : evL f (X (m + t)) r = RS (s (m + t) * pdZ (X (m + t)) (othS (fun j => X (m + j)) t) (k - 1)) (P f) := hr.2.2 t ht
    rw [hz, hv, Int.mul_zero, vanL_ev h0 h8]
    have e : pdZ (X (m + t)) (othS X (m + t)) (m + k - 1) = pdZ (X (m + t)) X m * pdZ (X (m + t)) (othS (fun j => X (m + j)) t) (k - 1) := by
      rw [show m + k - 1 = m + (k - 1) by omega, pdZ_add]
      congr 1
      · exact pdZ_congr fun i hi => if_pos (by omega)
      · refine pdZ_congr fun i _ => ?_
        show othS X (m + t) (m + i) = othS (fun j => X (m + j)) t i
        unfold othS
        by_cases h : i < t
        · rw [if_pos h, if_pos (by omega)]
        · rw [if_neg h, if_neg (by omega)]; rfl
    rw [e]
    unfold RS
    rw [Int.zero_emod, Int.zero_add, emm, ← Int.mul_emod]
    congr 1
    rw [Int.mul_left_comm]
/-- With the weights in the shares it is the polynomial through the points. -/
theorem comb_inter {f : Int} (h0 : 0 ≤ f) (h8 : f ≤ 8) {X Y : Nat → Int} {n : Nat} (hd : DistinctS f X n) (hY : ∀ j, j < n → 0 ≤ Y j ∧ Y j < P f) {c : List Int} (h : CombAt f X (fun j => RS (Y j * mPower f (byF f X j n) (-1)) (P f)) n c) : c = interL f X Y n := by
  refine (interL_eq h0 h8 hd ⟨h.1, h.2.1, fun i hi => ?_⟩).symm
  rw [h.2.2 i hi]
  have h1 := byF_hi f X i n hi
  have h2 := inv_mul h0 h8 (byF_ne h0 h8 hd hi)
  obtain ⟨V, hV⟩ : ∃ V, mPower f (byF f X i n) (-1) = V := ⟨_, rfl⟩
  show RS (RS (Y i * mPower f (byF f X i n) (-1)) (P f) * pdZ (X i) (othS X i) (n - 1)) (P f) = Y i
  rw [hV] at h2 ⊢
  unfold RS
  have h3 : (Y i * V % P f * pdZ (X i) (othS X i) (n - 1)) % P f = (Y i * V * byF f X i n) % P f := emod_mul_congr (emm _ _) h1.symm
  have h4 : (Y i * V * byF f X i n) % P f = (Y i * 1) % P f := by rw [Int.mul_assoc]; exact emod_mul_congr rfl h2
  rw [h3, h4, Int.mul_one]
  exact Int.emod_eq_of_lt (hY i hi).1 (hY i hi).2
end Go.Proofs.YtangofjpnhhfeabDoor
namespace Go.Proofs.YtangofjpnhhfeabDoor
theorem addL_gt {f : Int} {a b : List Int} (hb : Pol f b) (h : a.length < b.length) : (addL f a b).length = b.length := by
  unfold addL
  rw [cutL_len, Nat.max_eq_right (Nat.le_of_lt h)]
  refine cutN_full (.inr ?_)
  have ht := hb.2
  have hbd := hb.1 (b.length - 1)
  rw [lf_out a (by omega), Int.zero_add]
  unfold RS
  rw [Int.emod_eq_of_lt hbd.1 hbd.2]
  exact ht.resolve_left (by omega)
theorem scaleL_neg_len {f : Int} {b : List Int} (hb : Pol f b) : (scaleL f b (-1)).length = b.length := by
  unfold scaleL
  rw [cutL_len]
  by_cases hz : b.length = 0
  · rw [hz]; rfl
  refine cutN_full (.inr ?_)
  have ht := hb.2.resolve_left hz
  have hbd := hb.1 (b.length - 1)
  unfold RS
  intro e
  have h1 := Int.dvd_of_emod_eq_zero e
  have h2 : P f ∣ lf b (b.length - 1) := by
    rw [Int.mul_neg, Int.mul_one] at h1
    exact (Int.dvd_neg).1 h1
  have := Int.le_of_dvd (by omega) h2
  omega
theorem quo_lenB {f : Int} (h0 : 0 ≤ f) (h8 : f ≤ 8) {a b q r : List Int} (ha : Pol f a) (hb : Pol f b) (hle : b.length ≤ a.length) (h : DivP f a b q r) : q.length + b.length = a.length + 1 := by
  have h1 := div_len h0 h8 hb h
  have hr := h.2.2.1
  by_cases hlt : a.length + 1 ≤ q.length + b.length
  · omega
  · exfalso
    have ht := top_nz h0 h8 ha (by omega)
    rw [h.2.2.2 (a.length - 1), lf_out r (by omega), cv_out (fun j h => lf_out q h) (fun j h => lf_out b h) (by omega)] at ht
    simp at ht
/-- The state of the divisions: two remainders and their factors. -/
def EeaAt (f : Int) (X Y : Nat → Int) (n b : Nat) (r0 r1 v0 v1 : List Int) : Prop :=
  (Pol f r0 ∧ Pol f r1 ∧ Pol f v0 ∧ Pol f v1) ∧ (r1.length < r0.length ∧ v0.length < v1.length ∧ v1.length + r0.length = n + 2 ∧ b ≤ 2 * (r0.length - 1)) ∧ (∀ i, i < n → evL f (X i) r0 = RS (evL f (X i) v0 * Y i) (P f)) ∧ ∀ i, i < n → evL f (X i) r1 = RS (evL f (X i) v1 * Y i) (P f)
theorem evL_one1 {f x : Int} (h0 : 0 ≤ f) (h8 : f ≤ 8) : evL f x [1] = 1 := by
  have hp := P_bd h0 h8
  have e : evN x (lf [1]) 1 = 1 := by
    show 0 + (1 : Int) * x ^ 0 = 1
    rw [Int.pow_zero]; rfl
  show RS (evN x (lf [1]) 1) (P f) = 1
  rw [e]
  exact Int.emod_eq_of_lt (by omega) (by omega)
theorem evL_nil (f x : Int) : evL f x [] = 0 := by simp [evL, evN, sumN, RS]
theorem EeaAt.start {f : Int} (h0 : 0 ≤ f) (h8 : f ≤ 8) {X Y : Nat → Int} {n b : Nat} {c : List Int} (hb : b ≤ 2 * n) (hY : ∀ j, j < n → 0 ≤ Y j ∧ Y j < P f) (h : QInter f X Y n c) : EeaAt f X Y n b (vanL f X n) c [] [1] := by
  have hl := vanL_len h0 h8 X n
  have h1 := h.2.1
  refine ⟨⟨vanL_pol h0 h8 X n, h.1, Pol.nil (P_pos h0 h8), pol_oneL h0 h8⟩, ⟨by omega, by simp, by rw [hl]; simp; omega, by omega⟩, fun i hi => ?_, fun i hi => ?_⟩
  · rw [van_at h0 h8 X hi, evL_nil, Int.zero_mul]
    exact (Int.zero_emod _).symm
  · rw [h.2.2 i hi, evL_one1 h0 h8, Int.one_mul]
    exact (Int.emod_eq_of_lt (hY i hi).1 (hY i hi).2).symm
theorem EeaAt.step {f : Int} (h0 : 0 ≤ f) (h8 : f ≤ 8) {X Y : Nat → Int} {n b : Nat} {r0 r1 v0 v1 q r : List Int} (h : EeaAt f X Y n b r0 r1 v0 v1) (_hz : r1.length ≠ 0) (hb : b ≤ 2 * (r1.length - 1)) (hd : DivP f r0 r1 q r) : EeaAt f X Y n b r1 r v1 (addL f v0 (scaleL f (mulL f q v1) (-1))) := by
  obtain ⟨⟨p1, p2, p3, p4⟩, ⟨l1, l2, l3, l4⟩, e1, e2⟩ := h
  have hq := quo_lenB h0 h8 p1 p2 (Nat.le_of_lt l1) hd
  have hm := mulL_len h0 h8 hd.1 p4 (by omega) (by omega)
  have hs := scaleL_neg_len (pol_mulL h0 h8 q v1)
  have ha := addL_gt (a := v0) (pol_scaleL h0 h8 (mulL f q v1) (-1)) (by omega)
  refine ⟨⟨p2, hd.2.1, p4, pol_addL h0 h8 _ _⟩, ⟨hd.2.2.1, by omega, by omega, hb⟩, e2, fun i hi => ?_⟩
  have h1 : evL f (X i) (addL f (mulL f q r1) r) = evL f (X i) r0 := by rw [div_back h0 h8 p1 hd]
  rw [evL_add, evL_mul, e1 i hi, e2 i hi] at h1
  rw [evL_add, evL_scale, evL_mul]
  have hb2 : 0 ≤ evL f (X i) r ∧ evL f (X i) r < P f := RS_bd (P_pos h0 h8)
  obtain ⟨R, hR⟩ : ∃ R, evL f (X i) r = R := ⟨_, rfl⟩
  obtain ⟨Q, hQ⟩ : ∃ Q, evL f (X i) q = Q := ⟨_, rfl⟩
  obtain ⟨U, hU⟩ : ∃ U, evL f (X i) v0 = U := ⟨_, rfl⟩
  obtain ⟨V, hV⟩ : ∃ V, evL f (X i) v1 = V := ⟨_, rfl⟩
  rw [hR] at hb2
  rw [hR, hQ, hU, hV] at h1
  rw [hR, hQ, hU, hV]
  obtain ⟨y, hy⟩ : ∃ y, Y i = y := ⟨_, rfl⟩
  rw [hy] at h1 ⊢
  unfold RS at h1 ⊢
  have k1 : (Q * (V * y % P f) % P f + R) % P f = (Q * (V * y) + R) % P f := emod_add_congr (by rw [emm]; exact emod_mul_congr rfl (emm _ _)) rfl
  rw [k1] at h1
  have k2 : ((U + Q * V % P f * -1 % P f) % P f * y) % P f = (U * y - Q * (V * y)) % P f := by
    have k3 : ((U + Q * V % P f * -1 % P f) % P f * y) % P f = ((U + Q * V * -1) * y) % P f := by
      refine emod_mul_congr ?_ rfl
      rw [emm]
      refine emod_add_congr rfl ?_
      rw [emm]
      exact emod_mul_congr (emm _ _) rfl
    rw [k3, Int.add_mul, Int.mul_neg, Int.mul_one, Int.neg_mul, Int.mul_assoc]
    rfl
  rw [k2]
  have k4 : R % P f = (U * y - Q * (V * y)) % P f := by
    have k5 : (Q * (V * y) + R - Q * (V * y)) % P f = (U * y - Q * (V * y)) % P f := emod_sub_congr h1 rfl
    rw [← k5]
    congr 1
    omega
  rw [← k4]
  exact (Int.emod_eq_of_lt hb2.1 hb2.2).symm
theorem msg_pol {f : Int} {m : List Int} {k : Nat} (h0 : 0 ≤ f) (h8 : f ≤ 8) (hm : m.length = k) (he : ElsOk f m) : Pol f (cutL k (lf m)) := Pol.cut (P_pos h0 h8) fun j hj => he j (by rw [hm]; exact hj)
theorem lf_cut_k {m : List Int} {k : Nat} (hm : m.length = k) : lf (cutL k (lf m)) = lf m := by
  subst hm
  exact lf_cut_self m
theorem evL_msg {f x : Int} {m : List Int} {k : Nat} (hm : m.length = k) : evL f x (cutL k (lf m)) = RS (evN x (lf m) m.length) (P f) := by
  rw [evL_n (cutL_le k (lf m)), lf_cut_k hm, hm]
/-- The values of a message's polynomial are its word. -/
theorem vals_enc {f : Int} {xs m : List Int} {k : Nat} (hm : m.length = k) : valsL f (lf xs) (cutL k (lf m)) xs.length = encL f xs m :=
  tab_congr fun _ _ => evL_msg hm
/-- Where a message is near, the remainder is its multiple by the factor. -/
theorem EeaAt.found {f : Int} {xs ys : List Int} {k : Nat} (hp : PtsOk f xs) (hy : ys.length = xs.length) (_k1 : 1 ≤ k) (hk : k ≤ xs.length) {r0 r1 v0 v1 m : List Int} (h : EeaAt f (lf xs) (lf ys) xs.length (xs.length + k) r0 r1 v0 v1) (hend : 2 * (r1.length - 1) < xs.length + k) (hm : QDec f xs ys k m) : r1 = mulL f v1 (cutL k (lf m)) := by
  have h0 := hp.1.1
  have h8 := hp.1.2
  obtain ⟨⟨p1, p2, p3, p4⟩, ⟨l1, l2, l3, l4⟩, e1, e2⟩ := h
  have d := hm.2.2
  rw [difN_same (by rw [encL_len, hy]), encL_len] at d
  have hnot := cntN_not (fun j => lf (encL f xs m) j != lf ys j) xs.length
  obtain ⟨s, s1, s2, _, _⟩ := sel_idx (fun j => !(lf (encL f xs m) j != lf ys j)) xs.length
  obtain ⟨N, hN⟩ : ∃ N, cntN (fun j => !(lf (encL f xs m) j != lf ys j)) xs.length = N := ⟨_, rfl⟩
  rw [hN] at hnot s1 s2
  have hd : DistinctS f (fun j => lf xs (s j)) N := distinct_of (fun j hj => hp.2.2.1 (s j) (s1 j (by omega)).1) fun i j hij hj => by
    have h1 := s2 i j hij (by omega)
    have h2 := (s1 j (by omega)).1
    exact hp.2.2.2 (s i) (s j) h1 h2
  have lm := cutL_le k (lf m)
  have lp := mulL_le f v1 (cutL k (lf m))
  refine through_unique h0 h8 hd p2 (pol_mulL h0 h8 _ _) (by omega) (by omega) fun i hi => ?_
  have h1 := s1 i hi
  have h3 : lf (encL f xs m) (s i) = lf ys (s i) := by
    have := h1.2
    simp only [Bool.not_eq_true', bne_eq_false_iff_eq] at this
    exact this
  rw [encL_at h1.1] at h3
  show evL f (lf xs (s i)) r1 = evL f (lf xs (s i)) (mulL f v1 (cutL k (lf m)))
  rw [e2 (s i) h1.1, evL_mul, evL_msg hm.1, h3]
theorem mul_div {f : Int} (h0 : 0 ≤ f) (h8 : f ≤ 8) {v c : List Int} (hc : Pol f c) (hz : v.length ≠ 0) : DivP f (mulL f v c) v c [] := by
  refine ⟨hc, Pol.nil (P_pos h0 h8), by simp; omega, fun j => ?_⟩
  rw [lf_mulL, emm, cv_comm, lf_out [] (Nat.zero_le _), Int.add_zero]
/-- The quotient, cut and padded, is the message. -/
theorem EeaAt.message {f : Int} {xs ys : List Int} {k : Nat} (hp : PtsOk f xs) (hy : ys.length = xs.length) (k1 : 1 ≤ k) (hk : k ≤ xs.length) {r0 r1 v0 v1 m q r : List Int} (h : EeaAt f (lf xs) (lf ys) xs.length (xs.length + k) r0 r1 v0 v1) (hend : 2 * (r1.length - 1) < xs.length + k) (hm : QDec f xs ys k m) (hd : DivP f r1 v1 q r) : padL q k = m := by
  have h0 := hp.1.1
  have h8 := hp.1.2
  have e := h.found hp hy k1 hk hend hm
  have hv := h.2.1.2.1
  rw [e] at hd
  have hq := (DivP.unique h0 h8 h.1.2.2.2 hd (mul_div h0 h8 (msg_pol h0 h8 hm.1 hm.2.1) (by omega))).1
  rw [hq]
  refine list_ext (by rw [padL_len, hm.1]) fun j hj => ?_
  rw [lf_padL _ (cutL_le k (lf m)), lf_cut_k hm.1]
/-- The places where two lists differ. -/
def dfL (a b : List Int) : List Int := selL (difP a b) (fun i => (i : Int)) (max a.length b.length)
theorem dfL_len (a b : List Int) : (dfL a b).length = difN a b := selL_len _ _ _
theorem difP_comm (a b : List Int) : difP a b = difP b a := funext fun j => by
  unfold difP
  rw [Bool.or_comm (decide (a.length ≤ j)), bne_comm]
theorem dfL_comm (a b : List Int) : dfL a b = dfL b a := by unfold dfL; rw [difP_comm, Nat.max_comm]
theorem difN_comm (a b : List Int) : difN a b = difN b a := by unfold difN; rw [difP_comm, Nat.max_comm]
theorem dfL_enc {f : Int} {xs ys m : List Int} (hy : ys.length = xs.length) : dfL ys (encL f xs m) = selL (fun i => lf (encL f xs m) i != lf ys i) (fun i => (i : Int)) xs.length := by
  unfold dfL
  rw [encL_len, hy, Nat.max_self]
  refine selL_congr _ fun i hi => ?_
  unfold difP
  rw [encL_len, hy, bne_comm]
  simp [show ¬ xs.length ≤ i by omega]
theorem padL_els {f : Int} {q : List Int} {k : Nat} (hq : Pol f q) : ElsOk f (padL q k) := fun j hj => by
  rw [padL_len] at hj
  unfold padL
  rw [lf_tab, if_pos hj]
  exact hq.1 j
/-- What the divisions find: the message, or none that is near. -/
theorem EeaAt.answer {f : Int} {xs ys : List Int} {k : Nat} (hp : PtsOk f xs) (hy : ys.length = xs.length) (k1 : 1 ≤ k) (hk : k ≤ xs.length) {r0 r1 v0 v1 q r : List Int} (h : EeaAt f (lf xs) (lf ys) xs.length (xs.length + k) r0 r1 v0 v1) (hend : 2 * (r1.length - 1) < xs.length + k) (hd : DivP f r1 v1 q r) :
    (difN ys (encL f xs (padL q k)) ≤ (xs.length - k) / 2 → QDec f xs ys k (padL q k) ∧ decL f xs ys k = padL q k ∧ dfL ys (encL f xs (padL q k)) = blameL f xs ys k) ∧ (¬ difN ys (encL f xs (padL q k)) ≤ (xs.length - k) / 2 → ¬ ∃ m, QDec f xs ys k m) := by
  refine ⟨fun hn => ?_, fun hn => ?_⟩
  · have hq : QDec f xs ys k (padL q k) := ⟨padL_len _ _, padL_els hd.1, by rw [difN_comm]; exact hn⟩
    have he := decL_eq hp hy hk hq
    refine ⟨hq, he, ?_⟩
    rw [dfL_enc hy]
    unfold blameL
    rw [he]
  · rintro ⟨m, hm⟩
    have e := h.message hp hy k1 hk hend hm hd
    rw [e] at hn
    have := hm.2.2
    rw [difN_comm] at this
    exact hn this
end Go.Proofs.YtangofjpnhhfeabDoor
namespace Go.Proofs.YtangofjpnhhfeabDoor
open Go.RowKit
theorem own_nil0 (w : World) (F : Nat → Int) : w.ownsRow w.heap.size 3 1 (.slice none 0 0) 0 (xsF F 0) := ⟨rfl, .inl ⟨rfl, rfl⟩⟩
theorem difP_in {xs ys : List Int} {i : Nat} (h : i < xs.length) (h2 : i < ys.length) : difP xs ys i = (lf xs i != lf ys i) := by
  unfold difP
  simp [show ¬ xs.length ≤ i by omega, show ¬ ys.length ≤ i by omega]
theorem difP_out {xs ys : List Int} {i : Nat} (h2 : ys.length ≤ i) : difP xs ys i = true := by
  unfold difP
  simp [h2]
set_option maxRecDepth 100000 in
set_option maxHeartbeats 3200000 in
theorem differing_ge (b off cap : Nat) (b2 off2 : Nat) (xs ys : List Int) (cap2 : Nat) (w : World) (n1 : 1 ≤ xs.length) (hle : ys.length ≤ xs.length) (hn : xs.length ≤ 4096) (hlt : b < w.heap.size) (hc : ∀ j, j < xs.length → w.cell? ⟨b, off + j, none⟩ = some (.int .i64 (lf xs j))) (hlt2 : b2 < w.heap.size) (hc2 : ∀ j, j < ys.length → w.cell? ⟨b2, off2 + j, none⟩ = some (.int .i64 (lf ys j))) :
    Calls Tryd.prog 72 #[.slice (some ⟨b, off, none⟩) xs.length cap, .slice (some ⟨b2, off2, none⟩) ys.length cap2] w (OwnsL w (dfL xs ys)) := by
  have HIN : Hid (∀ i, i < xs.length → i < ys.length → difP xs ys i = (lf xs i != lf ys i)) := Lib.hid fun i h h2 => difP_in h h2
  have HOUT : Hid (∀ i, ys.length ≤ i → difP xs ys i = true) := Lib.hid fun i h => difP_out h
  have HF : Hid (∀ v W, W.ownsRow w.heap.size 3 1 v (cntN (difP xs ys) xs.length) (xsF (lf (selL (difP xs ys) (fun i => (i : Int)) xs.length)) (cntN (difP xs ys) xs.length)) → Below w.heap.size w W → OwnsL w (dfL xs ys) (.returned v) W) := Lib.hid fun v W ho hb => by
    have e : dfL xs ys = selL (difP xs ys) (fun i => (i : Int)) xs.length := by unfold dfL; rw [Nat.max_eq_left (by first | omega | exact Nat.zero_le _)]
    rw [e]
    exact owns_to (w := w) ho (selL_len _ _ _).symm (fun j _ => rfl) hb
  have HX := Lib.hid (fun i h => @sel_yes (difP xs ys) (fun i => (i : Int)) i h)
  have HXN := Lib.hid (fun i h => @sel_no (difP xs ys) (fun i => (i : Int)) i h)
  have HCL := Lib.hid (fun i => cntN_le (difP xs ys) i)
  have HC := Lib.hid hc
  have HB : Hid (∀ i, i < ys.length → w.cell? ⟨b2, off2 + i, none⟩ = some (.int .i64 (lf ys i))) := Lib.hid hc2
  have OE := Lib.hid (own_nil0 w (lf (selL (difP xs ys) (fun i => (i : Int)) 0)))
  obtain ⟨i0, hi, hz0, hz1, hz2⟩ := info_parts info3
  have HI := Lib.hid hi
  have HZ0 := Lib.hid hz0
  have HZ1 := Lib.hid hz1
  have HZ2 := Lib.hid hz2
  clear hi hz0 hz1 hz2 hc hc2
  generalize difP xs ys = D at *
  generalize dfL xs ys = R at *
  generalize lf xs = X at *
  generalize lf ys = Y at *
  generalize xs.length = n at *
  generalize ys.length = m at *
  have hd0 : decide ((n : Int) < m) = false := decide_eq_false (by omega)
  have hd0n : decide (n < m) = false := decide_eq_false (by omega)
  go_enter Tryd.func72, Tryd.ntmps72
  go_wp2_with fail
  (try rw [hd0])
  (try rw [hd0n])
  go_loopw [5, 17] (fun v iv wr => ∃ i : Nat, iv = .int .i64 i ∧ i ≤ n ∧ wr.ownsRow w.heap.size 3 1 v (cntN D i) (xsF (lf (selL D (fun i => (i : Int)) i)) (cntN D i)) ∧ Below w.heap.size w wr) (fun _ iv _ => n - (intOf iv).toNat)
  case atStart => exact ⟨0, rfl, Nat.zero_le _, OE.out, Below.refl _ _⟩
  case round =>
    clear OE
    obtain ⟨i, rfl, hin, hown, hnx⟩ := hrel
    have hcl := HCL.out i
    have hsz := hnx.size
    by_cases h1 : i < n
    · have hd1 : decide ((i : Int) < n) = true := decide_eq_true (by omega)
      have c1 : wr.cell? ⟨b, off + i, none⟩ = some (.int .i64 (X i)) := (hnx.cell (p := ⟨b, off + i, none⟩) hlt).trans (HC.out i h1)
      have hi0 : (0 : Int) ≤ (i : Int) := by omega
      have hi2 : (i : Int) < n := by omega
      cases hB : D i
      · have h3 : i < m := by
          rcases Nat.lt_or_ge i m with h | h
          · exact h
          · rw [HOUT.out i h] at hB; cases hB
        have c2 := HB.out i h3
        have c2 : wr.cell? ⟨b2, off2 + i, none⟩ = some (.int .i64 (Y i)) := (hnx.cell (p := ⟨b2, off2 + i, none⟩) hlt2).trans c2
        have hd3 : decide ((m : Int) ≤ i) = false := decide_eq_false (by omega)
        have hi3 : (i : Int) < m := by omega
        have hbne : (X i != Y i) = false := by rw [← HIN.out i h1 h3]; exact hB
        have e1 := HXN.out i hB
        have HV : Hid (wr.ownsRow w.heap.size 3 1 _ (cntN D (i + 1)) (xsF (lf (selL D (fun i => (i : Int)) (i + 1))) (cntN D (i + 1)))) := Lib.hid (by rw [e1.1, e1.2]; exact hown)
        have HNX := Lib.hid hnx
        clear hown e1 hnx HB
        go_wp2
        go_roundw
        case rel => exact ⟨i + 1, by go_num, by omega, HV.out, HNX.out⟩
        case measure => simp [intOf]; omega
      · have e1 := Lib.hid (HX.out i hB)
        have hge := own_ge hown
        by_cases h3 : i < m
        · have c2 := HB.out i h3
          have c2 : wr.cell? ⟨b2, off2 + i, none⟩ = some (.int .i64 (Y i)) := (hnx.cell (p := ⟨b2, off2 + i, none⟩) hlt2).trans c2
          have hd3 : decide ((m : Int) ≤ i) = false := decide_eq_false (by omega)
          have hi3 : (i : Int) < m := by omega
          have hbne : (X i != Y i) = true := by rw [← HIN.out i h1 h3]; exact hB
          go_wp2_with (at_builtin; refine wpList_append_own_at _ rfl _ _ 22 rfl w.heap.size 3 i0 (.int .i64 0) 1 8 Tryd.underlying22 HI.out HZ0.out HZ1.out HZ2.out rfl (by decide) _ _ _ rfl (hown.alloc _) ⟨wr.heap.size, 0, none⟩ 1 1 [.int .i64 (i : Int)] rfl rfl ?c1 ?c2 ?c3 ?c4 ?c5 ?_)
          case c1 => exact cell_one_new _ _ _
          case c2 => intro u hu; simp at hu; subst hu; rfl
          case c3 => unfold maxLen; omega
          case c4 => omega
          case c5 => simp; omega
          intro v' w6 hown' hgrow _ hat
          have hbel : Below w.heap.size w w6 := (hnx.alloc hsz _).grown hgrow (by simp; omega) hge
          rw [e1.out.1, e1.out.2] at hown'
          clear hgrow hown hat hnx
          go_wp2
          go_roundw
          case rel => exact ⟨i + 1, by go_num, by omega, hown', hbel⟩
          case measure => simp [intOf]; omega
        · have hd3 : decide ((m : Int) ≤ i) = true := decide_eq_true (by omega)
          go_wp2_with (at_builtin; refine wpList_append_own_at _ rfl _ _ 22 rfl w.heap.size 3 i0 (.int .i64 0) 1 8 Tryd.underlying22 HI.out HZ0.out HZ1.out HZ2.out rfl (by decide) _ _ _ rfl (hown.alloc _) ⟨wr.heap.size, 0, none⟩ 1 1 [.int .i64 (i : Int)] rfl rfl ?c1 ?c2 ?c3 ?c4 ?c5 ?_)
          case c1 => exact cell_one_new _ _ _
          case c2 => intro u hu; simp at hu; subst hu; rfl
          case c3 => unfold maxLen; omega
          case c4 => omega
          case c5 => simp; omega
          intro v' w6 hown' hgrow _ hat
          have hbel : Below w.heap.size w w6 := (hnx.alloc hsz _).grown hgrow (by simp; omega) hge
          rw [e1.out.1, e1.out.2] at hown'
          clear hgrow hown hat hnx
          go_wp2
          go_roundw
          case rel => exact ⟨i + 1, by go_num, by omega, hown', hbel⟩
          case measure => simp [intOf]; omega
    · have hd1 : decide ((i : Int) < n) = false := decide_eq_false (by omega)
      obtain rfl : i = n := by omega
      have HR := Lib.hid (HF.out _ wr hown hnx)
      clear hown hnx
      go_wp2
      go_ret
      exact HR.out
set_option maxRecDepth 100000 in
set_option maxHeartbeats 3200000 in
theorem differing_lt (b off cap : Nat) (b2 off2 : Nat) (xs ys : List Int) (cap2 : Nat) (w : World) (n1 : 1 ≤ xs.length) (hlt3 : ys.length < xs.length) (hn : xs.length ≤ 4096) (hlt : b < w.heap.size) (hc : ∀ j, j < xs.length → w.cell? ⟨b, off + j, none⟩ = some (.int .i64 (lf xs j))) (hlt2 : b2 < w.heap.size) (hc2 : ∀ j, j < ys.length → w.cell? ⟨b2, off2 + j, none⟩ = some (.int .i64 (lf ys j))) :
    Calls Tryd.prog 72 #[.slice (some ⟨b2, off2, none⟩) ys.length cap2, .slice (some ⟨b, off, none⟩) xs.length cap] w (OwnsL w (dfL xs ys)) := by
  have HIN : Hid (∀ i, i < xs.length → i < ys.length → difP xs ys i = (lf xs i != lf ys i)) := Lib.hid fun i h h2 => difP_in h h2
  have HOUT : Hid (∀ i, ys.length ≤ i → difP xs ys i = true) := Lib.hid fun i h => difP_out h
  have HF : Hid (∀ v W, W.ownsRow w.heap.size 3 1 v (cntN (difP xs ys) xs.length) (xsF (lf (selL (difP xs ys) (fun i => (i : Int)) xs.length)) (cntN (difP xs ys) xs.length)) → Below w.heap.size w W → OwnsL w (dfL xs ys) (.returned v) W) := Lib.hid fun v W ho hb => by
    have e : dfL xs ys = selL (difP xs ys) (fun i => (i : Int)) xs.length := by unfold dfL; rw [Nat.max_eq_left (by first | omega | exact Nat.zero_le _)]
    rw [e]
    exact owns_to (w := w) ho (selL_len _ _ _).symm (fun j _ => rfl) hb
  have HX := Lib.hid (fun i h => @sel_yes (difP xs ys) (fun i => (i : Int)) i h)
  have HXN := Lib.hid (fun i h => @sel_no (difP xs ys) (fun i => (i : Int)) i h)
  have HCL := Lib.hid (fun i => cntN_le (difP xs ys) i)
  have HC := Lib.hid hc
  have HB : Hid (∀ i, i < ys.length → w.cell? ⟨b2, off2 + i, none⟩ = some (.int .i64 (lf ys i))) := Lib.hid hc2
  have OE := Lib.hid (own_nil0 w (lf (selL (difP xs ys) (fun i => (i : Int)) 0)))
  obtain ⟨i0, hi, hz0, hz1, hz2⟩ := info_parts info3
  have HI := Lib.hid hi
  have HZ0 := Lib.hid hz0
  have HZ1 := Lib.hid hz1
  have HZ2 := Lib.hid hz2
  clear hi hz0 hz1 hz2 hc hc2
  generalize difP xs ys = D at *
  generalize dfL xs ys = R at *
  generalize lf xs = X at *
  generalize lf ys = Y at *
  generalize xs.length = n at *
  generalize ys.length = m at *
  have hd0 : decide ((m : Int) < n) = true := decide_eq_true (by omega)
  have hle : m ≤ n := by omega
  go_enter Tryd.func72, Tryd.ntmps72
  go_wp2_with fail
  (try rw [hd0])
  (try rw [hd0n])
  go_loopw [5, 17] (fun v iv wr => ∃ i : Nat, iv = .int .i64 i ∧ i ≤ n ∧ wr.ownsRow w.heap.size 3 1 v (cntN D i) (xsF (lf (selL D (fun i => (i : Int)) i)) (cntN D i)) ∧ Below w.heap.size w wr) (fun _ iv _ => n - (intOf iv).toNat)
  case atStart => exact ⟨0, rfl, Nat.zero_le _, OE.out, Below.refl _ _⟩
  case round =>
    clear OE
    obtain ⟨i, rfl, hin, hown, hnx⟩ := hrel
    have hcl := HCL.out i
    have hsz := hnx.size
    by_cases h1 : i < n
    · have hd1 : decide ((i : Int) < n) = true := decide_eq_true (by omega)
      have c1 : wr.cell? ⟨b, off + i, none⟩ = some (.int .i64 (X i)) := (hnx.cell (p := ⟨b, off + i, none⟩) hlt).trans (HC.out i h1)
      have hi0 : (0 : Int) ≤ (i : Int) := by omega
      have hi2 : (i : Int) < n := by omega
      cases hB : D i
      · have h3 : i < m := by
          rcases Nat.lt_or_ge i m with h | h
          · exact h
          · rw [HOUT.out i h] at hB; cases hB
        have c2 := HB.out i h3
        have c2 : wr.cell? ⟨b2, off2 + i, none⟩ = some (.int .i64 (Y i)) := (hnx.cell (p := ⟨b2, off2 + i, none⟩) hlt2).trans c2
        have hd3 : decide ((m : Int) ≤ i) = false := decide_eq_false (by omega)
        have hi3 : (i : Int) < m := by omega
        have hbne : (X i != Y i) = false := by rw [← HIN.out i h1 h3]; exact hB
        have e1 := HXN.out i hB
        have HV : Hid (wr.ownsRow w.heap.size 3 1 _ (cntN D (i + 1)) (xsF (lf (selL D (fun i => (i : Int)) (i + 1))) (cntN D (i + 1)))) := Lib.hid (by rw [e1.1, e1.2]; exact hown)
        have HNX := Lib.hid hnx
        clear hown e1 hnx HB
        go_wp2
        go_roundw
        case rel => exact ⟨i + 1, by go_num, by omega, HV.out, HNX.out⟩
        case measure => simp [intOf]; omega
      · have e1 := Lib.hid (HX.out i hB)
        have hge := own_ge hown
        by_cases h3 : i < m
        · have c2 := HB.out i h3
          have c2 : wr.cell? ⟨b2, off2 + i, none⟩ = some (.int .i64 (Y i)) := (hnx.cell (p := ⟨b2, off2 + i, none⟩) hlt2).trans c2
          have hd3 : decide ((m : Int) ≤ i) = false := decide_eq_false (by omega)
          have hi3 : (i : Int) < m := by omega
          have hbne : (X i != Y i) = true := by rw [← HIN.out i h1 h3]; exact hB
          go_wp2_with (at_builtin; refine wpList_append_own_at _ rfl _ _ 22 rfl w.heap.size 3 i0 (.int .i64 0) 1 8 Tryd.underlying22 HI.out HZ0.out HZ1.out HZ2.out rfl (by decide) _ _ _ rfl (hown.alloc _) ⟨wr.heap.size, 0, none⟩ 1 1 [.int .i64 (i : Int)] rfl rfl ?c1 ?c2 ?c3 ?c4 ?c5 ?_)
          case c1 => exact cell_one_new _ _ _
          case c2 => intro u hu; simp at hu; subst hu; rfl
          case c3 => unfold maxLen; omega
          case c4 => omega
          case c5 => simp; omega
          intro v' w6 hown' hgrow _ hat
          have hbel : Below w.heap.size w w6 := (hnx.alloc hsz _).grown hgrow (by simp; omega) hge
          rw [e1.out.1, e1.out.2] at hown'
          clear hgrow hown hat hnx
          go_wp2
          go_roundw
          case rel => exact ⟨i + 1, by go_num, by omega, hown', hbel⟩
          case measure => simp [intOf]; omega
        · have hd3 : decide ((m : Int) ≤ i) = true := decide_eq_true (by omega)
          go_wp2_with (at_builtin; refine wpList_append_own_at _ rfl _ _ 22 rfl w.heap.size 3 i0 (.int .i64 0) 1 8 Tryd.underlying22 HI.out HZ0.out HZ1.out HZ2.out rfl (by decide) _ _ _ rfl (hown.alloc _) ⟨wr.heap.size, 0, none⟩ 1 1 [.int .i64 (i : Int)] rfl rfl ?c1 ?c2 ?c3 ?c4 ?c5 ?_)
          case c1 => exact cell_one_new _ _ _
          case c2 => intro u hu; simp at hu; subst hu; rfl
          case c3 => unfold maxLen; omega
          case c4 => omega
          case c5 => simp; omega
          intro v' w6 hown' hgrow _ hat
          have hbel : Below w.heap.size w w6 := (hnx.alloc hsz _).grown hgrow (by simp; omega) hge
          rw [e1.out.1, e1.out.2] at hown'
          clear hgrow hown hat hnx
          go_wp2
          go_roundw
          case rel => exact ⟨i + 1, by go_num, by omega, hown', hbel⟩
          case measure => simp [intOf]; omega
    · have hd1 : decide ((i : Int) < n) = false := decide_eq_false (by omega)
      obtain rfl : i = n := by omega
      have HR := Lib.hid (HF.out _ wr hown hnx)
      clear hown hnx
      go_wp2
      go_ret
      exact HR.out
set_option maxRecDepth 100000 in
set_option maxHeartbeats 3200000 in
theorem differing_ge0 (b off cap : Nat) (a2 : Option Addr) (xs : List Int) (cap2 : Nat) (w : World) (n1 : 1 ≤ xs.length) (hle : 0 ≤ xs.length) (hn : xs.length ≤ 4096) (hlt : b < w.heap.size) (hc : ∀ j, j < xs.length → w.cell? ⟨b, off + j, none⟩ = some (.int .i64 (lf xs j))) :
    Calls Tryd.prog 72 #[.slice (some ⟨b, off, none⟩) xs.length cap, .slice a2 0 cap2] w (OwnsL w (dfL xs [])) := by
  have HOUT : Hid (∀ i, 0 ≤ i → difP xs [] i = true) := Lib.hid fun i h => difP_out h
  have HF : Hid (∀ v W, W.ownsRow w.heap.size 3 1 v (cntN (difP xs []) xs.length) (xsF (lf (selL (difP xs []) (fun i => (i : Int)) xs.length)) (cntN (difP xs []) xs.length)) → Below w.heap.size w W → OwnsL w (dfL xs []) (.returned v) W) := Lib.hid fun v W ho hb => by
    have e : dfL xs [] = selL (difP xs []) (fun i => (i : Int)) xs.length := by unfold dfL; rw [Nat.max_eq_left (by first | omega | exact Nat.zero_le _)]
    rw [e]
    exact owns_to (w := w) ho (selL_len _ _ _).symm (fun j _ => rfl) hb
  have HX := Lib.hid (fun i h => @sel_yes (difP xs []) (fun i => (i : Int)) i h)
  have HXN := Lib.hid (fun i h => @sel_no (difP xs []) (fun i => (i : Int)) i h)
  have HCL := Lib.hid (fun i => cntN_le (difP xs []) i)
  have HC := Lib.hid hc
  have OE := Lib.hid (own_nil0 w (lf (selL (difP xs []) (fun i => (i : Int)) 0)))
  obtain ⟨i0, hi, hz0, hz1, hz2⟩ := info_parts info3
  have HI := Lib.hid hi
  have HZ0 := Lib.hid hz0
  have HZ1 := Lib.hid hz1
  have HZ2 := Lib.hid hz2
  clear hi hz0 hz1 hz2 hc
  generalize difP xs [] = D at *
  generalize dfL xs [] = R at *
  generalize lf xs = X at *
  generalize xs.length = n at *
  have hd0 : decide ((n : Int) < 0) = false := decide_eq_false (by omega)
  have hd0n : decide (n < 0) = false := decide_eq_false (by omega)
  go_enter Tryd.func72, Tryd.ntmps72
  go_wp2_with fail
  (try rw [hd0])
  (try rw [hd0n])
  go_loopw [5, 17] (fun v iv wr => ∃ i : Nat, iv = .int .i64 i ∧ i ≤ n ∧ wr.ownsRow w.heap.size 3 1 v (cntN D i) (xsF (lf (selL D (fun i => (i : Int)) i)) (cntN D i)) ∧ Below w.heap.size w wr) (fun _ iv _ => n - (intOf iv).toNat)
  case atStart => exact ⟨0, rfl, Nat.zero_le _, OE.out, Below.refl _ _⟩
  case round =>
    clear OE
    obtain ⟨i, rfl, hin, hown, hnx⟩ := hrel
    have hcl := HCL.out i
    have hsz := hnx.size
    by_cases h1 : i < n
    · have hd1 : decide ((i : Int) < n) = true := decide_eq_true (by omega)
      have c1 : wr.cell? ⟨b, off + i, none⟩ = some (.int .i64 (X i)) := (hnx.cell (p := ⟨b, off + i, none⟩) hlt).trans (HC.out i h1)
      have hi0 : (0 : Int) ≤ (i : Int) := by omega
      have hi2 : (i : Int) < n := by omega
      have hB := HOUT.out i (Nat.zero_le _)
      have e1 := Lib.hid (HX.out i hB)
      have hge := own_ge hown
      have hd3 : decide ((0 : Int) ≤ (i : Int)) = true := decide_eq_true (by omega)
      go_wp2_with (at_builtin; refine wpList_append_own_at _ rfl _ _ 22 rfl w.heap.size 3 i0 (.int .i64 0) 1 8 Tryd.underlying22 HI.out HZ0.out HZ1.out HZ2.out rfl (by decide) _ _ _ rfl (hown.alloc _) ⟨wr.heap.size, 0, none⟩ 1 1 [.int .i64 (i : Int)] rfl rfl ?c1 ?c2 ?c3 ?c4 ?c5 ?_)
      case c1 => exact cell_one_new _ _ _
      case c2 => intro u hu; simp at hu; subst hu; rfl
      case c3 => unfold maxLen; omega
      case c4 => omega
      case c5 => simp; omega
      intro v' w6 hown' hgrow _ hat
      have hbel : Below w.heap.size w w6 := (hnx.alloc hsz _).grown hgrow (by simp; omega) hge
      rw [e1.out.1, e1.out.2] at hown'
      clear hgrow hown hat hnx
      go_wp2
      go_roundw
      case rel => exact ⟨i + 1, by go_num, by omega, hown', hbel⟩
      case measure => simp [intOf]; omega
    · have hd1 : decide ((i : Int) < n) = false := decide_eq_false (by omega)
      obtain rfl : i = n := by omega
      have HR := Lib.hid (HF.out _ wr hown hnx)
      clear hown hnx
      go_wp2
      go_ret
      exact HR.out
set_option maxRecDepth 100000 in
set_option maxHeartbeats 3200000 in
theorem differing_lt0 (b off cap : Nat) (a2 : Option Addr) (xs : List Int) (cap2 : Nat) (w : World) (n1 : 1 ≤ xs.length) (hlt3 : 0 < xs.length) (hn : xs.length ≤ 4096) (hlt : b < w.heap.size) (hc : ∀ j, j < xs.length → w.cell? ⟨b, off + j, none⟩ = some (.int .i64 (lf xs j))) :
    Calls Tryd.prog 72 #[.slice a2 0 cap2, .slice (some ⟨b, off, none⟩) xs.length cap] w (OwnsL w (dfL xs [])) := by
  have HOUT : Hid (∀ i, 0 ≤ i → difP xs [] i = true) := Lib.hid fun i h => difP_out h
  have HF : Hid (∀ v W, W.ownsRow w.heap.size 3 1 v (cntN (difP xs []) xs.length) (xsF (lf (selL (difP xs []) (fun i => (i : Int)) xs.length)) (cntN (difP xs []) xs.length)) → Below w.heap.size w W → OwnsL w (dfL xs []) (.returned v) W) := Lib.hid fun v W ho hb => by
    have e : dfL xs [] = selL (difP xs []) (fun i => (i : Int)) xs.length := by unfold dfL; rw [Nat.max_eq_left (by first | omega | exact Nat.zero_le _)]
    rw [e]
    exact owns_to (w := w) ho (selL_len _ _ _).symm (fun j _ => rfl) hb
  have HX := Lib.hid (fun i h => @sel_yes (difP xs []) (fun i => (i : Int)) i h)
  have HXN := Lib.hid (fun i h => @sel_no (difP xs []) (fun i => (i : Int)) i h)
  have HCL := Lib.hid (fun i => cntN_le (difP xs []) i)
  have HC := Lib.hid hc
  have OE := Lib.hid (own_nil0 w (lf (selL (difP xs []) (fun i => (i : Int)) 0)))
  obtain ⟨i0, hi, hz0, hz1, hz2⟩ := info_parts info3
  have HI := Lib.hid hi
  have HZ0 := Lib.hid hz0
  have HZ1 := Lib.hid hz1
  have HZ2 := Lib.hid hz2
  clear hi hz0 hz1 hz2 hc
  generalize difP xs [] = D at *
  generalize dfL xs [] = R at *
  generalize lf xs = X at *
  generalize xs.length = n at *
  have hd0 : decide ((0 : Int) < n) = true := decide_eq_true (by omega)
  have hle : 0 ≤ n := by omega
  go_enter Tryd.func72, Tryd.ntmps72
  go_wp2_with fail
  (try rw [hd0])
  (try rw [hd0n])
  go_loopw [5, 17] (fun v iv wr => ∃ i : Nat, iv = .int .i64 i ∧ i ≤ n ∧ wr.ownsRow w.heap.size 3 1 v (cntN D i) (xsF (lf (selL D (fun i => (i : Int)) i)) (cntN D i)) ∧ Below w.heap.size w wr) (fun _ iv _ => n - (intOf iv).toNat)
  case atStart => exact ⟨0, rfl, Nat.zero_le _, OE.out, Below.refl _ _⟩
  case round =>
    clear OE
    obtain ⟨i, rfl, hin, hown, hnx⟩ := hrel
    have hcl := HCL.out i
    have hsz := hnx.size
    by_cases h1 : i < n
    · have hd1 : decide ((i : Int) < n) = true := decide_eq_true (by omega)
      have c1 : wr.cell? ⟨b, off + i, none⟩ = some (.int .i64 (X i)) := (hnx.cell (p := ⟨b, off + i, none⟩) hlt).trans (HC.out i h1)
      have hi0 : (0 : Int) ≤ (i : Int) := by omega
      have hi2 : (i : Int) < n := by omega
      have hB := HOUT.out i (Nat.zero_le _)
      have e1 := Lib.hid (HX.out i hB)
      have hge := own_ge hown
      have hd3 : decide ((0 : Int) ≤ (i : Int)) = true := decide_eq_true (by omega)
      go_wp2_with (at_builtin; refine wpList_append_own_at _ rfl _ _ 22 rfl w.heap.size 3 i0 (.int .i64 0) 1 8 Tryd.underlying22 HI.out HZ0.out HZ1.out HZ2.out rfl (by decide) _ _ _ rfl (hown.alloc _) ⟨wr.heap.size, 0, none⟩ 1 1 [.int .i64 (i : Int)] rfl rfl ?c1 ?c2 ?c3 ?c4 ?c5 ?_)
      case c1 => exact cell_one_new _ _ _
      case c2 => intro u hu; simp at hu; subst hu; rfl
      case c3 => unfold maxLen; omega
      case c4 => omega
      case c5 => simp; omega
      intro v' w6 hown' hgrow _ hat
      have hbel : Below w.heap.size w w6 := (hnx.alloc hsz _).grown hgrow (by simp; omega) hge
      rw [e1.out.1, e1.out.2] at hown'
      clear hgrow hown hat hnx
      go_wp2
      go_roundw
      case rel => exact ⟨i + 1, by go_num, by omega, hown', hbel⟩
      case measure => simp [intOf]; omega
    · have hd1 : decide ((i : Int) < n) = false := decide_eq_false (by omega)
      obtain rfl : i = n := by omega
      have HR := Lib.hid (HF.out _ wr hown hnx)
      clear hown hnx
      go_wp2
      go_ret
      exact HR.out
theorem differing_none (a a2 : Option Addr) (cap cap2 : Nat) (w : World) : Calls Tryd.prog 72 #[.slice a 0 cap, .slice a2 0 cap2] w fun e w' => e = .returned (.slice none 0 0) ∧ w = w' := by
  go_enter Tryd.func72, Tryd.ntmps72
  go_wp2_with fail
  refine wp_loop_rounds 1 ?_
  rw [rounds_succ]
  go_wp2
  go_ret
  exact ⟨rfl, rfl⟩
theorem differing_c (a : Option Addr) (xs : List Int) (cap : Nat) (a2 : Option Addr) (ys : List Int) (cap2 : Nat) (w : World) (hn : xs.length ≤ 4096) (hn2 : ys.length ≤ 4096) (hs : Src w a xs.length (lf xs)) (hs2 : Src w a2 ys.length (lf ys)) :
    Calls Tryd.prog 72 #[.slice a xs.length cap, .slice a2 ys.length cap2] w (OwnsL w (dfL xs ys)) := by
  by_cases hz : xs.length = 0 ∧ ys.length = 0
  · rw [hz.1, hz.2]
    refine (differing_none a a2 cap cap2 w).mono ?_
    rintro e w' ⟨rfl, rfl⟩
    have e1 : (dfL xs ys).length = 0 := by
      rw [dfL_len]
      unfold difN
      rw [hz.1, hz.2]
      rfl
    exact ⟨_, rfl, by rw [e1]; exact own_nil0 w _, Below.refl _ _⟩
  · by_cases hlt : xs.length < ys.length
    · rw [dfL_comm]
      rcases hs2 with h | ⟨b, off, rfl, h1, h2⟩
      · omega
      · rcases hs with h | ⟨b2, off2, rfl, h3, h4⟩
        · obtain rfl : xs = [] := List.length_eq_zero_iff.1 h
          have hlt : 0 < ys.length := hlt
          exact differing_lt0 b off cap2 a ys cap w (by omega) (by omega) hn2 h1 h2
        · exact differing_lt b off cap2 b2 off2 ys xs cap w (by omega) hlt hn2 h1 h2 h3 h4
    · rcases hs with h | ⟨b, off, rfl, h1, h2⟩
      · omega
      · rcases hs2 with h | ⟨b2, off2, rfl, h3, h4⟩
        · obtain rfl : ys = [] := List.length_eq_zero_iff.1 h
          exact differing_ge0 b off cap a2 xs cap2 w (by omega) (Nat.zero_le _) hn h1 h2
        · exact differing_ge b off cap b2 off2 xs ys cap2 w (by omega) (by omega) hn h1 h2 h3 h4
end Go.Proofs.YtangofjpnhhfeabDoor
namespace Go.Proofs.YtangofjpnhhfeabDoor
open Go.RowKit Go.Extern.Stop Go.Stop Go.Extern
/-- The world holds the handle of the type error where package errors looks for it. -/
def Ety (w : World) : Prop := w.cell? ⟨0, 0, none⟩ = some (.iface 111 (.agg #[.pointer (some ⟨2, 76, none⟩)]))
theorem Ety.below {w w' : World} (h : Ety w) (hb : Below w.heap.size w w') : Ety w' := (hb.cell (p := ⟨0, 0, none⟩) (block_lt_of_cell h)).trans h
theorem as_nil (t : Value) (w : World) : Calls Tryd.prog 78 #[.nilIface, t] w fun e w' => e = .returned (.bool false) ∧ w = w' := by
  go_enter Tryd.func78, Tryd.ntmps78
  go_wp2
  go_ret
  exact ⟨rfl, rfl⟩
theorem as_valueP (t : Addr) (w : World) : (ReflectliteValue.unpack (.iface 82 (.pointer (some t)))).run Tryd.prog w
    = .ok (.agg #[.pointer (some ⟨2, 82, none⟩), .pointer (some ⟨w.heap.size, 0, none⟩), .int .u64 150]) (w.alloc (.cells #[.pointer (some t)] 82)) := by kernel_rfl
theorem as_typeP (a : Addr) (w : World) : (ReflectliteValue.methodAny (ReflectliteValue.valueError "reflectlite.Value.Type" 0) (fun t _ _ _ => ReflectliteType.toType t) #[.agg #[.pointer (some ⟨2, 82, none⟩), .pointer (some a), .int .u64 150]]).run Tryd.prog w
    = .ok (.iface 111 (.agg #[.pointer (some ⟨2, 82, none⟩)])) w := by kernel_rfl
theorem as_mKind (h : Value) (w : World) : (Go.method 253 111 (.agg #[h]) "Kind").run Tryd.prog w = .ok (133, h) w := by kernel_rfl
theorem as_kindP (w : World) : ((ReflectliteType.abiMethod fun t => (fun a : Nat => Value.int IntKind.u8 (a : Int)) <$> Rtype.kind t) #[.pointer (some ⟨2, 82, none⟩)]).run Tryd.prog w = .ok (.int .u8 22) w := by kernel_rfl
theorem as_kindE (w : World) : ((ReflectliteType.abiMethod fun t => (fun a : Nat => Value.int IntKind.u8 (a : Int)) <$> Rtype.kind t) #[.pointer (some ⟨2, 80, none⟩)]).run Tryd.prog w = .ok (.int .u8 25) w := by kernel_rfl
theorem as_rlm (z : Sem Value) (f : TypeId → Addr → Nat → Nat → Sem Value) (v : Value) :
    ReflectliteValue.method z f #[v] = (do match ← ReflectliteValue.parts v with | none => z | some (t, a, fl) => f t a fl (fl % 32)) := rfl
theorem as_partsP (a : Addr) (w : World) : (ReflectliteValue.parts (.agg #[.pointer (some ⟨2, 82, none⟩), .pointer (some a), .int .u64 150])).run Tryd.prog w = .ok (some (82, a, 150)) w := by kernel_rfl
theorem as_isNilP (a p : Addr) (W : World) (ha : W.cell? a = some (.pointer (some p))) :
    (ReflectliteValue.method (ReflectliteValue.valueError "reflectlite.Value.IsNil" 0) ReflectliteValue.isNil #[.agg #[.pointer (some ⟨2, 82, none⟩), .pointer (some a), .int .u64 150]]).run Tryd.prog W = .ok (.bool false) W := by
  rw [as_rlm]
  simp only [Sem.run_bind, as_partsP, Result.andThen]
  simp [ReflectliteValue.isNil, loadVar, isAgg, underlying, Tryd.underlying82, ha, Result.andThen]
theorem as_mElem (h : Value) (w : World) : (Go.method 253 111 (.agg #[h]) "Elem").run Tryd.prog w = .ok (144, .agg #[h]) w := by kernel_rfl
theorem as_mImpl (h : Value) (w : World) : (Go.method 253 111 (.agg #[h]) "Implements").run Tryd.prog w = .ok (145, .agg #[h]) w := by kernel_rfl
theorem as_mAss (h : Value) (w : World) : (Go.method 253 111 (.agg #[h]) "AssignableTo").run Tryd.prog w = .ok (142, .agg #[h]) w := by kernel_rfl
theorem as_elemP (w : World) : (ReflectliteType.method ReflectliteType.elem #[.agg #[.pointer (some ⟨2, 82, none⟩)]]).run Tryd.prog w = .ok (.iface 111 (.agg #[.pointer (some ⟨2, 80, none⟩)])) w := by kernel_rfl
theorem as_implE (w : World) : (ReflectliteType.relation "Implements" ReflectliteType.implements_ #[.agg #[.pointer (some ⟨2, 80, none⟩)], .iface 111 (.agg #[.pointer (some ⟨2, 76, none⟩)])]).run Tryd.prog w = .ok (.bool true) w := by kernel_rfl
theorem as_typeOfE (v : Value) (w : World) : (ReflectliteType.typeOf #[.iface 80 v]).run Tryd.prog w = .ok (.iface 111 (.agg #[.pointer (some ⟨2, 80, none⟩)])) w := by kernel_rfl
theorem as_assE (w : World) : (ReflectliteType.relation "AssignableTo" ReflectliteType.assignableTo #[.agg #[.pointer (some ⟨2, 80, none⟩)], .iface 111 (.agg #[.pointer (some ⟨2, 80, none⟩)])]).run Tryd.prog w = .ok (.bool true) w := by kernel_rfl
theorem as_valueE (m : Int) (w : World) : (ReflectliteValue.unpack (.iface 80 (.agg #[.int .i64 m]))).run Tryd.prog w
    = .ok (.agg #[.pointer (some ⟨2, 80, none⟩), .pointer (some ⟨w.heap.size, 0, none⟩), .int .u64 153]) (w.alloc (.cells #[.int .i64 m] 80)) := by kernel_rfl
theorem as_elemOfP (w : World) : (Rtype.elem? 82).run Tryd.prog w = .ok (some 80) w := by kernel_rfl
theorem as_mkE (p : Addr) (w : World) : (ReflectliteValue.mk 80 p ReflectliteValue.flagAddr).run Tryd.prog w = .ok (.agg #[.pointer (some ⟨2, 80, none⟩), .pointer (some p), .int .u64 409]) w := by kernel_rfl
theorem as_elemV (a p : Addr) (W : World) (ha : W.cell? a = some (.pointer (some p))) :
    (ReflectliteValue.method (ReflectliteValue.valueError "reflectlite.Value.Elem" 0) ReflectliteValue.elem #[.agg #[.pointer (some ⟨2, 82, none⟩), .pointer (some a), .int .u64 150]]).run Tryd.prog W
      = .ok (.agg #[.pointer (some ⟨2, 80, none⟩), .pointer (some p), .int .u64 409]) W := by
  rw [as_rlm]
  simp only [Sem.run_bind, as_partsP, Result.andThen]
  simp [ReflectliteValue.elem, loadVar, isAgg, underlying, Tryd.underlying82, ha, Result.andThen, as_elemOfP, as_mkE]
theorem as_rls (v x : Value) : ReflectliteValue.set #[v, x] = (do
    let (some (dst, a, fl), some (src, b, _)) := (← ReflectliteValue.parts v, ← ReflectliteValue.parts x)
      | unsupported (.noEntry "extern/(internal/reflectlite.Value).Set.zeroValue")
    if fl / ReflectliteValue.flagAddr % 2 == 0 then unsupported (.noEntry "extern/(internal/reflectlite.Value).Set.unaddressable")
    let val ← loadVar src b
    if ← Rtype.directlyAssignable dst src then storeVar dst a val
    else if ← Rtype.implements dst src then
      if (← Rtype.kind src) == 20 then
        match val with
        | .nilIface => unsupported (.noEntry "extern/reflectlite: a nil value of one interface type handed on as a value of another")
        | _ => storeVar dst a val
      else storeVar dst a (.iface src val)
    else panicString ("reflectlite.Set: value of type " ++ (← Rtype.spelt src) ++ " is not assignable to type " ++ (← Rtype.spelt dst))
    pure (.tuple #[])) := rfl
theorem as_partsEa (a : Addr) (w : World) : (ReflectliteValue.parts (.agg #[.pointer (some ⟨2, 80, none⟩), .pointer (some a), .int .u64 409])).run Tryd.prog w = .ok (some (80, a, 409)) w := by kernel_rfl
theorem as_partsE (a : Addr) (w : World) : (ReflectliteValue.parts (.agg #[.pointer (some ⟨2, 80, none⟩), .pointer (some a), .int .u64 153])).run Tryd.prog w = .ok (some (80, a, 153)) w := by kernel_rfl
theorem as_directE (w : World) : (Rtype.directlyAssignable 80 80).run Tryd.prog w = .ok true w := by kernel_rfl
theorem as_isAggE (w : World) : (isAgg 80).run Tryd.prog w = .ok true w := by kernel_rfl
theorem as_sizeE (w : World) : (sizeOf 80).run Tryd.prog w = .ok 1 w := by kernel_rfl
theorem as_loadE (b : Nat) (m : Int) (W : World) (hb : W.cell? ⟨b, 0, none⟩ = some (.int .i64 m)) : (loadVar 80 ⟨b, 0, none⟩).run Tryd.prog W = .ok (.agg #[.int .i64 m]) W := by
  unfold loadVar
  simp only [Sem.run_bind, as_isAggE, Result.andThen, if_true, as_sizeE]
  simp [loadCells, loadCellsFrom, Addr.add, hb, Result.andThen]
theorem as_setE (ta b : Nat) (m : Int) (old : Value) (W : World) (hb : W.cell? ⟨b, 0, none⟩ = some (.int .i64 m)) (ht : W.cell? ⟨ta, 0, none⟩ = some old) (hf : W.frozen? ⟨ta, 0, none⟩ = false) :
    (ReflectliteValue.set #[.agg #[.pointer (some ⟨2, 80, none⟩), .pointer (some ⟨ta, 0, none⟩), .int .u64 409], .agg #[.pointer (some ⟨2, 80, none⟩), .pointer (some ⟨b, 0, none⟩), .int .u64 153]]).run Tryd.prog W
      = .ok (.tuple #[]) (W.setCell ⟨ta, 0, none⟩ (.int .i64 m)) := by
  rw [as_rls]
  simp only [Sem.run_bind, as_partsEa, as_partsE, Result.andThen]
  simp [ReflectliteValue.flagAddr, as_loadE b m W hb, Result.andThen, as_directE, storeVar, Value.cells, storeCells, Addr.add]
  rw [run_store Tryd.prog W ⟨ta, 0, none⟩ _ _ (by rfl)]
  simp [ht, hf]
set_option maxHeartbeats 8000000 in
theorem as_hit (m : Int) (t : Nat) (old : Value) (w : World) (hg : Ety w) (ht0 : w.cell? ⟨t, 0, none⟩ = some old) (hf0 : w.frozen? ⟨t, 0, none⟩ = false) :
    Calls Tryd.prog 78 #[.iface 80 (.agg #[.int .i64 m]), .iface 82 (.pointer (some ⟨t, 0, none⟩))] w fun ev w' => ev = .returned (.bool true) ∧ w' = ((((w.alloc (.cells #[.pointer (some ⟨t, 0, none⟩)] 82)).alloc (.cells #[.pointer (some ⟨2, 82, none⟩), .pointer (some ⟨w.heap.size, 0, none⟩), .int .u64 150] 97)).alloc (.cells #[.pointer (some ⟨2, 82, none⟩), .pointer (some ⟨w.heap.size, 0, none⟩), .int .u64 150] 97)).alloc (.cells #[.int .i64 m] 80)).setCell ⟨t, 0, none⟩ (.int .i64 m) := by
  unfold Ety at hg
  have h6 := @run_callFunc_extern Tryd.prog 104 _ (fun args => ReflectliteValue.unpack (args.getD 0 (.tuple #[]))) Tryd.func104 (by kernel_rfl) (by kernel_rfl) (by kernel_rfl) (by kernel_rfl)
  have h7 := @run_callFunc_extern Tryd.prog 105 _ (ReflectliteValue.methodAny (ReflectliteValue.valueError "reflectlite.Value.Type" 0) (fun t _ _ _ => ReflectliteType.toType t)) Tryd.func105 (by kernel_rfl) (by kernel_rfl) (by kernel_rfl) (by kernel_rfl)
  have h8 := @run_callFunc_extern Tryd.prog 106 _ (ReflectliteValue.method (ReflectliteValue.valueError "reflectlite.Value.IsNil" 0) ReflectliteValue.isNil) Tryd.func106 (by kernel_rfl) (by kernel_rfl) (by kernel_rfl) (by kernel_rfl)
  have h27 := @run_callFunc_extern Tryd.prog 133 _ (ReflectliteType.abiMethod fun t => do pure (.int .u8 (← Rtype.kind t))) Tryd.func133 (by kernel_rfl) (by kernel_rfl) (by kernel_rfl) (by kernel_rfl)
  have h37 := @run_callFunc_extern Tryd.prog 144 _ (ReflectliteType.method ReflectliteType.elem) Tryd.func144 (by kernel_rfl) (by kernel_rfl) (by kernel_rfl) (by kernel_rfl)
  have h38 := @run_callFunc_extern Tryd.prog 145 _ (ReflectliteType.relation "Implements" ReflectliteType.implements_) Tryd.func145 (by kernel_rfl) (by kernel_rfl) (by kernel_rfl) (by kernel_rfl)
  have h10 := @run_callFunc_extern Tryd.prog 114 _ ReflectliteType.typeOf Tryd.func114 (by kernel_rfl) (by kernel_rfl) (by kernel_rfl) (by kernel_rfl)
  have h35 := @run_callFunc_extern Tryd.prog 142 _ (ReflectliteType.relation "AssignableTo" ReflectliteType.assignableTo) Tryd.func142 (by kernel_rfl) (by kernel_rfl) (by kernel_rfl) (by kernel_rfl)
  have h11 := @run_callFunc_extern Tryd.prog 115 _ (ReflectliteValue.method (ReflectliteValue.valueError "reflectlite.Value.Elem" 0) ReflectliteValue.elem) Tryd.func115 (by kernel_rfl) (by kernel_rfl) (by kernel_rfl) (by kernel_rfl)
  have h12 := @run_callFunc_extern Tryd.prog 116 _ ReflectliteValue.set Tryd.func116 (by kernel_rfl) (by kernel_rfl) (by kernel_rfl) (by kernel_rfl)
  have tO := as_typeOfE
  have mA := as_mAss
  have a25 := as_assE
  have v25 := as_valueE
  have f6 := as_valueP
  have f7 := as_typeP
  have mK := as_mKind
  have mE := as_mElem
  have mI := as_mImpl
  have k27 := as_kindP
  have k25 := as_kindE
  have e27 := as_elemP
  have i25 := as_implE
  have n8 := as_isNilP ⟨w.heap.size, 0, none⟩ ⟨t, 0, none⟩ ((w.alloc (.cells #[.pointer (some ⟨t, 0, none⟩)] 82)).alloc (.cells #[.pointer (some ⟨2, 82, none⟩), .pointer (some ⟨w.heap.size, 0, none⟩), .int .u64 150] 97)) (by simp)
  have hlt : 0 < w.heap.size := block_lt_of_cell hg
  have hg2 : ((w.alloc (.cells #[.pointer (some ⟨t, 0, none⟩)] 82)).alloc (.cells #[.pointer (some ⟨2, 82, none⟩), .pointer (some ⟨w.heap.size, 0, none⟩), .int .u64 150] 97)).cell? ⟨0, 0, none⟩ = some (.iface 111 (.agg #[.pointer (some ⟨2, 76, none⟩)])) := by
    rw [World.cell?_alloc_lt _ _ ⟨0, 0, none⟩ (by simp <;> omega), World.cell?_alloc_lt _ _ ⟨0, 0, none⟩ hlt]; exact hg
  have htl : t < w.heap.size := block_lt_of_cell ht0
  have el := as_elemV ⟨w.heap.size, 0, none⟩ ⟨t, 0, none⟩ (((w.alloc (.cells #[.pointer (some ⟨t, 0, none⟩)] 82)).alloc (.cells #[.pointer (some ⟨2, 82, none⟩), .pointer (some ⟨w.heap.size, 0, none⟩), .int .u64 150] 97)).alloc (.cells #[.pointer (some ⟨2, 82, none⟩), .pointer (some ⟨w.heap.size, 0, none⟩), .int .u64 150] 97)) (by rw [World.cell?_alloc_lt _ _ ⟨w.heap.size, 0, none⟩ (by simp; omega)]; simp)
  have st := as_setE t (w.heap.size + 1 + 1 + 1) m old ((((w.alloc (.cells #[.pointer (some ⟨t, 0, none⟩)] 82)).alloc (.cells #[.pointer (some ⟨2, 82, none⟩), .pointer (some ⟨w.heap.size, 0, none⟩), .int .u64 150] 97)).alloc (.cells #[.pointer (some ⟨2, 82, none⟩), .pointer (some ⟨w.heap.size, 0, none⟩), .int .u64 150] 97)).alloc (.cells #[.int .i64 m] 80))
    (by rw [World.cell?_alloc_at _ _ _ _ (by simp)]; rfl)
    (by rw [World.cell?_alloc_lt _ _ ⟨t, 0, none⟩ (by simp; omega), World.cell?_alloc_lt _ _ ⟨t, 0, none⟩ (by simp; omega), World.cell?_alloc_lt _ _ ⟨t, 0, none⟩ (by simp; omega), World.cell?_alloc_lt _ _ ⟨t, 0, none⟩ htl]; exact ht0)
    (by rw [World.frozen?_alloc_old _ _ ⟨t, 0, none⟩ (by simp; omega), World.frozen?_alloc_old _ _ ⟨t, 0, none⟩ (by simp; omega), World.frozen?_alloc_old _ _ ⟨t, 0, none⟩ (by simp; omega), World.frozen?_alloc_old _ _ ⟨t, 0, none⟩ (Nat.ne_of_lt htl)]; exact hf0)
  go_enter Tryd.func78, Tryd.ntmps78
  go_wp2
  refine wp_loop_rounds 1 ?_
  rw [rounds_succ]
  go_wp2
  go_ret
  exact ⟨rfl, rfl⟩
end Go.Proofs.YtangofjpnhhfeabDoor
namespace Go.Proofs.YtangofjpnhhfeabDoor
open Go.ChangeShapes Go.WideShapes Go.ChangeAt Go.RowKit

theorem own : ownKnob Tryd.prog.godebug = none := by kernel_rfl
theorem gTab : Tryd.prog.globalNamed "loop.example/g00710/impl.fieldTable" = some 1 := by kernel_rfl
theorem gTabType : (Tryd.prog.globals[1]?).map (·.type) = some 109 := by kernel_rfl
theorem cells60 : Tryd.prog.cellsOf 109 = 27 := by kernel_rfl
theorem cells59 : Tryd.prog.cellsOf 108 = 3 := by kernel_rfl
theorem cells3 : Tryd.prog.cellsOf 3 = 1 := by kernel_rfl
theorem cells4 : Tryd.prog.cellsOf 4 = 1 := by kernel_rfl
theorem cells5 : Tryd.prog.cellsOf 5 = 1 := by kernel_rfl
def tabCells : Array Value := #[.int .i64 17, .int .i64 3, .int .i64 4, .int .i64 97, .int .i64 5, .int .i64 5, .int .i64 193, .int .i64 5, .int .i64 6, .int .i64 257, .int .i64 3, .int .i64 8, .int .i64 7681, .int .i64 17, .int .i64 9, .int .i64 12289, .int .i64 11, .int .i64 12, .int .i64 998244353, .int .i64 3, .int .i64 23, .int .i64 469762049, .int .i64 3, .int .i64 26, .int .i64 1004535809, .int .i64 3, .int .i64 21]
set_option maxRecDepth 100000 in
theorem trod3 {H : Type} {enc : TypeId × Value → H} {w : World} {base : Nat} {spare : Nat → Bool} {held : Bool} {fuel : Nat} {c : List Value} {a b d : Int} {ps : List MemPlace}
    (h : DataW.trod enc Tryd.prog w base spare held fuel 108 c = some (.agg [.lit (.int .i64 a), .lit (.int .i64 b), .lit (.int .i64 d)], ps)) : c = [.int .i64 a, .int .i64 b, .int .i64 d] := by
  obtain ⟨y0, y1, y2, n, e, hl, h0, h1, h2⟩ := Deep.trod_struct3 Tryd.underlying108 h
  rw [cells59] at hl
  match c, hl with
  | [x, y, z], _ =>
    simp only [cells3] at h0 h1 h2
    obtain ⟨a', e0, rfl, _⟩ := DataW.trod_int Tryd.underlying3 h0
    obtain ⟨b', e1, rfl, _⟩ := DataW.trod_int Tryd.underlying3 h1
    obtain ⟨d', e2, rfl, _⟩ := DataW.trod_int Tryd.underlying3 h2
    simp at e e0 e1 e2
    obtain ⟨⟨rfl, rfl, rfl⟩, _⟩ := e
    rw [e0, e1, e2]
theorem cut3 {l a : List Value} (h : l.take 3 = a) : l = a ++ l.drop 3 := by rw [← h, List.take_append_drop]
set_option maxRecDepth 100000 in
theorem table_cells {W : World} {fuel : Nat} {cs : Array Value} {p : List MemPlace}
    (h : DataW.trod (fun _ => ()) Tryd.prog W 0 (fun _ => true) false fuel 109 cs.toList = some (Rows.laid_loop_example_g00710_impl_fieldTable, p)) : cs = tabCells := by
  obtain ⟨xs, m, _, e, hl, hn, hx⟩ := DataW.trod_array Tryd.underlying109 h
  rw [cells60] at hl
  simp only [cells59] at hx
  unfold Rows.laid_loop_example_g00710_impl_fieldTable at e
  simp only [Prod.mk.injEq, DataW.agg.injEq] at e
  have e1 := e.1
  match xs, hn with
  | [x0, x1, x2, x3, x4, x5, x6, x7, x8], _ =>
    simp only [List.map_cons, List.map_nil, List.cons.injEq, and_true] at e1
    obtain ⟨f0, f1, f2, f3, f4, f5, f6, f7, f8⟩ := e1
    have g0 := cut3 (trod3 (ps := x0.2) ((hx 0 (by decide)).trans (by show some x0 = _; rw [f0])))
    have g1 := cut3 (trod3 (ps := x1.2) ((hx 1 (by decide)).trans (by show some x1 = _; rw [f1])))
    have g2 := cut3 (trod3 (ps := x2.2) ((hx 2 (by decide)).trans (by show some x2 = _; rw [f2])))
    have g3 := cut3 (trod3 (ps := x3.2) ((hx 3 (by decide)).trans (by show some x3 = _; rw [f3])))
    have g4 := cut3 (trod3 (ps := x4.2) ((hx 4 (by decide)).trans (by show some x4 = _; rw [f4])))
    have g5 := cut3 (trod3 (ps := x5.2) ((hx 5 (by decide)).trans (by show some x5 = _; rw [f5])))
    have g6 := cut3 (trod3 (ps := x6.2) ((hx 6 (by decide)).trans (by show some x6 = _; rw [f6])))
    have g7 := cut3 (trod3 (ps := x7.2) ((hx 7 (by decide)).trans (by show some x7 = _; rw [f7])))
    have g8 := cut3 (trod3 (ps := x8.2) ((hx 8 (by decide)).trans (by show some x8 = _; rw [f8])))
    simp only [List.drop_drop, Nat.zero_mul, List.drop_zero, Nat.one_mul] at g0 g1 g2 g3 g4 g5 g6 g7 g8
    have ez : List.drop (8 * 3 + 3) cs.toList = [] := List.drop_of_length_le (by rw [hl]; decide)
    apply Array.toList_inj.1
    rw [g0, g1, g2, g3, g4, g5, g6, g7, g8, ez]
    rfl
theorem table_var {W : World} (h : laidMetH Tryd.prog [("loop.example/g00710/impl.fieldTable", Rows.laid_loop_example_g00710_impl_fieldTable)] W) : W.var? Tryd.prog "loop.example/g00710/impl.fieldTable" = some tabCells := by
  have h' : laidMet Tryd.prog [("loop.example/g00710/impl.fieldTable", Rows.laid_loop_example_g00710_impl_fieldTable)] W := h
  obtain ⟨ps, ⟨g, t, cs, fuel, p, q, h1, h2, h3, h4, _⟩, _⟩ := h'
  obtain rfl : 1 = g := Option.some.inj (gTab.symm.trans h1)
  obtain rfl : 109 = t := Option.some.inj (gTabType.symm.trans h2)
  rw [h3, table_cells h4]
theorem var_cell {W : World} (h : W.var? Tryd.prog "loop.example/g00710/impl.fieldTable" = some tabCells) (i : Nat) : W.cell? ⟨1, i, none⟩ = tabCells[i]? := by
  simp only [World.var?, gTab, Option.bind_some] at h
  unfold World.cell?
  split at h
  · rename_i cs _ _ e
    cases h
    simp [e]
  · cases h
theorem tab_of {W : World} (h : W.var? Tryd.prog "loop.example/g00710/impl.fieldTable" = some tabCells) : Tab W := by
  intro n h0 h8
  simp only [var_cell h]
  rcases nine h0 h8 with rfl | rfl | rfl | rfl | rfl | rfl | rfl | rfl | rfl <;> exact ⟨rfl, rfl, rfl⟩
theorem var_size {W : World} (h : W.var? Tryd.prog "loop.example/g00710/impl.fieldTable" = some tabCells) : 1 < W.heap.size := by
  simp only [World.var?, gTab, Option.bind_some] at h
  split at h
  · rename_i e
    exact (Array.getElem?_eq_some_iff.1 e).1
  · cases h
theorem tab_trod {H : Type} (enc : TypeId × Value → H) (W : World) (sp : Nat → Bool) : DataW.trod enc Tryd.prog W 0 sp true 8 109 tabCells.toList = some (Rows.laid_loop_example_g00710_impl_fieldTable, []) := by kernel_rfl
theorem tab_vars {H : Type} (enc : TypeId × Value → H) {W : World} (sp : Nat → Bool) (h : W.var? Tryd.prog "loop.example/g00710/impl.fieldTable" = some tabCells) :
    DataW.TrodVars enc Tryd.prog W sp ["loop.example/g00710/impl.fieldTable"] [Rows.laid_loop_example_g00710_impl_fieldTable] (MemPlace.row ⟨1, 0, none⟩ 27 ++ []) :=
  trodVars_mk1 gTab gTabType h (tab_trod enc W sp)
/-- A world for the witness: the settled one, the table (block 0) holding what its initialiser lays. -/
noncomputable def laidWorld (os : Os) : World :=
  { World.holding Tryd.prog os ⟨#[], #[], []⟩ with heap := (World.holding Tryd.prog os ⟨#[], #[], []⟩).heap.modify 1 fun
      | .cells _ t frozen => .cells tabCells t frozen
      | o => o }
theorem below_var {W W' : World} (hb : Below W.heap.size W W') (h : W.var? Tryd.prog "loop.example/g00710/impl.fieldTable" = some tabCells) : W'.var? Tryd.prog "loop.example/g00710/impl.fieldTable" = some tabCells :=
  var?_below hb gTab (var_size h) h
theorem et_glob : Tryd.prog.globalNamed "errors.errorType" = some 0 := by kernel_rfl
theorem et_rt : (Tryd.prog.cutTypes.find? (·.1 == "internal/reflectlite.rtype")).map (·.2) = some 111 := by kernel_rfl
theorem et_row : ((List.range Tryd.prog.types.size).filter fun t => Tryd.prog.rowNamed t [101, 114, 114, 111, 114]) = [76] := by kernel_rfl
theorem laid_both {W : World} (h : laidMetH Tryd.prog [("errors.errorType", Rows.laid_errors_errorType), ("loop.example/g00710/impl.fieldTable", Rows.laid_loop_example_g00710_impl_fieldTable)] W) : laidMet Tryd.prog [("loop.example/g00710/impl.fieldTable", Rows.laid_loop_example_g00710_impl_fieldTable)] W ∧ handlesMet Tryd.prog [("errors.errorType", Rows.laid_errors_errorType)] W := h
theorem table_var2 {W : World} (h : laidMetH Tryd.prog [("errors.errorType", Rows.laid_errors_errorType), ("loop.example/g00710/impl.fieldTable", Rows.laid_loop_example_g00710_impl_fieldTable)] W) : W.var? Tryd.prog "loop.example/g00710/impl.fieldTable" = some tabCells := by
  have h1 : laidMetH Tryd.prog [("loop.example/g00710/impl.fieldTable", Rows.laid_loop_example_g00710_impl_fieldTable)] W := (laid_both h).1
  exact table_var h1
theorem ety_of {W : World} (h : laidMetH Tryd.prog [("errors.errorType", Rows.laid_errors_errorType), ("loop.example/g00710/impl.fieldTable", Rows.laid_loop_example_g00710_impl_fieldTable)] W) : Ety W := by
  obtain ⟨name, u, ty, e1, e2, e3, e4, e5⟩ := (laid_both h).2 _ (List.mem_singleton.2 rfl)
  have en : name = [101, 114, 114, 111, 114] := (Option.some.inj e1).symm
  subst en
  obtain rfl := Option.some.inj (et_rt.symm.trans e2)
  have hm : ty ∈ (List.range Tryd.prog.types.size).filter fun t => Tryd.prog.rowNamed t [101, 114, 114, 111, 114] := List.mem_filter.2 ⟨List.mem_range.2 e3, e4⟩
  rw [et_row] at hm
  obtain rfl := List.mem_singleton.1 hm
  have hh : typeHandle Tryd.prog 76 = .pointer (some ⟨2, 76, none⟩) := by kernel_rfl
  rw [hh] at e5
  unfold Ety
  simpa using World.var?_cell et_glob e5 0
noncomputable def laidWorld2 (os : Os) : World :=
  { laidWorld os with heap := (laidWorld os).heap.modify 0 fun
      | .cells _ t frozen => .cells #[.iface 111 (.agg #[.pointer (some ⟨2, 76, none⟩)])] t frozen
      | o => o }
end Go.Proofs.YtangofjpnhhfeabDoor
namespace Go.Proofs.YtangofjpnhhfeabDoor
set_option maxRecDepth 100000
theorem both {a b : Bool} (h : a = true) (k : b = true) : (a && b) = true := by rw [h, k]; rfl
theorem f_laidOut : laidOutB Tryd.prog = true := by kernel_rfl
theorem f_mapsRowed : mapsRowed Tryd.prog = true := by kernel_rfl
theorem f_stops : (Tryd.prog.stops == []) = true := by kernel_rfl
theorem f_knobs : (Tryd.prog.stopKnobs == []) = true := by kernel_rfl
theorem f_keys : (Rows.fnExactDecodeWordRow.plainKeys == Tryd.prog.plainKeys) = true := by kernel_rfl
theorem f_heard : Tryd.prog.stopsHeard = true := by kernel_rfl
theorem f_looks : true = Tryd.prog.looks [] := by kernel_rfl
def headSigns : List Char := [Char.ofNat 104, Char.ofNat 97, Char.ofNat 114, Char.ofNat 110, Char.ofNat 101, Char.ofNat 115, Char.ofNat 115, Char.ofNat 32, Char.ofNat 97, Char.ofNat 51, Char.ofNat 57, Char.ofNat 55, Char.ofNat 54, Char.ofNat 57, Char.ofNat 53, Char.ofNat 57, Char.ofNat 102, Char.ofNat 101, Char.ofNat 53, Char.ofNat 54, Char.ofNat 51, Char.ofNat 50, Char.ofNat 49, Char.ofNat 52, Char.ofNat 54, Char.ofNat 57, Char.ofNat 98, Char.ofNat 48, Char.ofNat 51, Char.ofNat 55, Char.ofNat 57, Char.ofNat 98, Char.ofNat 54, Char.ofNat 49, Char.ofNat 56, Char.ofNat 101, Char.ofNat 101, Char.ofNat 57, Char.ofNat 98, Char.ofNat 48, Char.ofNat 53, Char.ofNat 48, Char.ofNat 50, Char.ofNat 49, Char.ofNat 99, Char.ofNat 55, Char.ofNat 49, Char.ofNat 48, Char.ofNat 53, Char.ofNat 52, Char.ofNat 101, Char.ofNat 50, Char.ofNat 51, Char.ofNat 57, Char.ofNat 57, Char.ofNat 57, Char.ofNat 48, Char.ofNat 56, Char.ofNat 51, Char.ofNat 98, Char.ofNat 57, Char.ofNat 52, Char.ofNat 101, Char.ofNat 57, Char.ofNat 100, Char.ofNat 99, Char.ofNat 48, Char.ofNat 56, Char.ofNat 99, Char.ofNat 102, Char.ofNat 99, Char.ofNat 53, Char.ofNat 32, Char.ofNat 99, Char.ofNat 117, Char.ofNat 116, Char.ofNat 32, Char.ofNat 97, Char.ofNat 116, Char.ofNat 32, Char.ofNat 108, Char.ofNat 111, Char.ofNat 111, Char.ofNat 112, Char.ofNat 46, Char.ofNat 101, Char.ofNat 120, Char.ofNat 97, Char.ofNat 109, Char.ofNat 112, Char.ofNat 108, Char.ofNat 101, Char.ofNat 47, Char.ofNat 103, Char.ofNat 48, Char.ofNat 48, Char.ofNat 55, Char.ofNat 49, Char.ofNat 48, Char.ofNat 47, Char.ofNat 108, Char.ofNat 97, Char.ofNat 119, Char.ofNat 115, Char.ofNat 46, Char.ofNat 70, Char.ofNat 110, Char.ofNat 69, Char.ofNat 120, Char.ofNat 97, Char.ofNat 99, Char.ofNat 116, Char.ofNat 68, Char.ofNat 101, Char.ofNat 99, Char.ofNat 111, Char.ofNat 100, Char.ofNat 101, Char.ofNat 87, Char.ofNat 111, Char.ofNat 114, Char.ofNat 100, Char.ofNat 32, Char.ofNat 108, Char.ofNat 111, Char.ofNat 111, Char.ofNat 112, Char.ofNat 46, Char.ofNat 101, Char.ofNat 120, Char.ofNat 97, Char.ofNat 109, Char.ofNat 112, Char.ofNat 108, Char.ofNat 101, Char.ofNat 47, Char.ofNat 103, Char.ofNat 48, Char.ofNat 48, Char.ofNat 55, Char.ofNat 49, Char.ofNat 48, Char.ofNat 47, Char.ofNat 108, Char.ofNat 97, Char.ofNat 119, Char.ofNat 115, Char.ofNat 46, Char.ofNat 70, Char.ofNat 110, Char.ofNat 69, Char.ofNat 120, Char.ofNat 97, Char.ofNat 99, Char.ofNat 116, Char.ofNat 66, Char.ofNat 108, Char.ofNat 97, Char.ofNat 109, Char.ofNat 101, Char.ofNat 32, Char.ofNat 108, Char.ofNat 111, Char.ofNat 111, Char.ofNat 112, Char.ofNat 46, Char.ofNat 101, Char.ofNat 120, Char.ofNat 97, Char.ofNat 109, Char.ofNat 112, Char.ofNat 108, Char.ofNat 101, Char.ofNat 47, Char.ofNat 103, Char.ofNat 48, Char.ofNat 48, Char.ofNat 55, Char.ofNat 49, Char.ofNat 48, Char.ofNat 47, Char.ofNat 108, Char.ofNat 97, Char.ofNat 119, Char.ofNat 115, Char.ofNat 46, Char.ofNat 70, Char.ofNat 110, Char.ofNat 69, Char.ofNat 120, Char.ofNat 97, Char.ofNat 99, Char.ofNat 116, Char.ofNat 68, Char.ofNat 101, Char.ofNat 99, Char.ofNat 111, Char.ofNat 100, Char.ofNat 101, Char.ofNat 71, Char.ofNat 97, Char.ofNat 112, Char.ofNat 115, Char.ofNat 32, Char.ofNat 108, Char.ofNat 111, Char.ofNat 111, Char.ofNat 112, Char.ofNat 46, Char.ofNat 101, Char.ofNat 120, Char.ofNat 97, Char.ofNat 109, Char.ofNat 112, Char.ofNat 108, Char.ofNat 101, Char.ofNat 47, Char.ofNat 103, Char.ofNat 48, Char.ofNat 48, Char.ofNat 55, Char.ofNat 49, Char.ofNat 48, Char.ofNat 47, Char.ofNat 108, Char.ofNat 97, Char.ofNat 119, Char.ofNat 115, Char.ofNat 46, Char.ofNat 70, Char.ofNat 110, Char.ofNat 73, Char.ofNat 110, Char.ofNat 116, Char.ofNat 101, Char.ofNat 114, Char.ofNat 112, Char.ofNat 111, Char.ofNat 108, Char.ofNat 97, Char.ofNat 116, Char.ofNat 101, Char.ofNat 66, Char.ofNat 97, Char.ofNat 99, Char.ofNat 107, Char.ofNat 32, Char.ofNat 108, Char.ofNat 111, Char.ofNat 111, Char.ofNat 112, Char.ofNat 46, Char.ofNat 101, Char.ofNat 120, Char.ofNat 97, Char.ofNat 109, Char.ofNat 112, Char.ofNat 108, Char.ofNat 101, Char.ofNat 47, Char.ofNat 103, Char.ofNat 48, Char.ofNat 48, Char.ofNat 55, Char.ofNat 49, Char.ofNat 48, Char.ofNat 47, Char.ofNat 108, Char.ofNat 97, Char.ofNat 119, Char.ofNat 115, Char.ofNat 46, Char.ofNat 70, Char.ofNat 110, Char.ofNat 87, Char.ofNat 101, Char.ofNat 105, Char.ofNat 103, Char.ofNat 104, Char.ofNat 116, Char.ofNat 115, Char.ofNat 32, Char.ofNat 108, Char.ofNat 111, Char.ofNat 111, Char.ofNat 112, Char.ofNat 46, Char.ofNat 101, Char.ofNat 120, Char.ofNat 97, Char.ofNat 109, Char.ofNat 112, Char.ofNat 108, Char.ofNat 101, Char.ofNat 47, Char.ofNat 103, Char.ofNat 48, Char.ofNat 48, Char.ofNat 55, Char.ofNat 49, Char.ofNat 48, Char.ofNat 47, Char.ofNat 108, Char.ofNat 97, Char.ofNat 119, Char.ofNat 115, Char.ofNat 46, Char.ofNat 70, Char.ofNat 110, Char.ofNat 68, Char.ofNat 101, Char.ofNat 99, Char.ofNat 111, Char.ofNat 100, Char.ofNat 101, Char.ofNat 66, Char.ofNat 101, Char.ofNat 110, Char.ofNat 116, Char.ofNat 32, Char.ofNat 108, Char.ofNat 111, Char.ofNat 111, Char.ofNat 112, Char.ofNat 46, Char.ofNat 101, Char.ofNat 120, Char.ofNat 97, Char.ofNat 109, Char.ofNat 112, Char.ofNat 108, Char.ofNat 101, Char.ofNat 47, Char.ofNat 103, Char.ofNat 48, Char.ofNat 48, Char.ofNat 55, Char.ofNat 49, Char.ofNat 48, Char.ofNat 47, Char.ofNat 108, Char.ofNat 97, Char.ofNat 119, Char.ofNat 115, Char.ofNat 46, Char.ofNat 70, Char.ofNat 110, Char.ofNat 71, Char.ofNat 97, Char.ofNat 112, Char.ofNat 115]
theorem init_is : Tryd.prog.initOrder = String.ofList headSigns := by kernel_rfl
theorem init_list : Tryd.prog.initOrder.toList = headSigns := by rw [init_is]; exact String.toList_ofList
theorem ws_word (a : List Char) (h : ∀ c, c ∈ a → c ≠ Char.ofNat 32) (r : List Char) : wordsSigns (a ++ Char.ofNat 32 :: r) = a :: wordsSigns r := by
  induction a with
  | nil => rfl
  | cons c a ih =>
    have hc : c ≠ Char.ofNat 32 := h c List.mem_cons_self
    have ih' := ih (fun c hc => h c (List.mem_cons_of_mem _ hc))
    show wordsSigns (c :: (a ++ Char.ofNat 32 :: r)) = (c :: a) :: wordsSigns r
    generalize wordsSigns r = t at *
    rw [wordsSigns, ih']
    intro e; exact hc e
def headA : List Char := headSigns.take 7
def headB : List Char := (headSigns.drop 8).take 64
def headC : List Char := (headSigns.drop 73).take 3
def headRest : List Char := headSigns.drop 77
theorem head_split : headSigns = headA ++ Char.ofNat 32 :: (headB ++ Char.ofNat 32 :: (headC ++ Char.ofNat 32 :: headRest)) := by kernel_rfl
theorem head_words : wordsSigns Tryd.prog.initOrder.toList = headA :: headB :: headC :: wordsSigns headRest := by
  rw [init_list, head_split, ws_word _ (by decide +kernel), ws_word _ (by decide +kernel), ws_word _ (by decide +kernel)]
theorem sum_is : "a3976959fe56321469b0379b618ee9b05021c71054e23999083b94e9dc08cfc5" = String.ofList headB := by kernel_rfl
theorem sum_list : "a3976959fe56321469b0379b618ee9b05021c71054e23999083b94e9dc08cfc5".toList = headB := by rw [sum_is]; exact String.toList_ofList
theorem behind_of (R : List (List Char)) : behindMainWord (headA :: headB :: headC :: R) = headC :: R := by kernel_rfl
theorem strip_of (R : List (List Char)) : stripLifts liftWords (headC :: R) = ([], headC :: R) := by kernel_rfl
section
variable {P : Program} {R : List (List Char)} (hw : wordsSigns P.initOrder.toList = headA :: headB :: headC :: R)
include hw
theorem main_gen : P.mainIs = some (true, headB) := by
  unfold Program.mainIs
  rw [hw]
  kernel_rfl
theorem lifts_gen : P.headLifts = [] := by
  unfold Program.headLifts
  rw [hw, behind_of, strip_of]
  kernel_rfl
theorem final_gen : P.liftsFinal = false := by
  unfold Program.liftsFinal
  rw [lifts_gen hw, hw, behind_of]
  kernel_rfl
theorem make_gen : P.make = some .cut := by
  unfold Program.make
  rw [lifts_gen hw, hw, behind_of]
  kernel_rfl
theorem enter_gen (hl : P.laysLater = false) (hr : P.bearsReflect = false) (hd : P.doorFits [] = true) : P.mayEnter = true := by
  unfold Program.mayEnter
  rw [hw, behind_of]
  dsimp only
  rw [strip_of, hl, hr]
  dsimp only
  rw [hd]
  kernel_rfl
end
theorem f_main : Tryd.prog.mainIs = some (true, "a3976959fe56321469b0379b618ee9b05021c71054e23999083b94e9dc08cfc5".toList) := (main_gen head_words).trans (congrArg (fun l => some (true, l)) sum_list.symm)
theorem f_lays : Tryd.prog.laysLater = false := by kernel_rfl
theorem f_refl : Tryd.prog.bearsReflect = false := by kernel_rfl
theorem f_door : Tryd.prog.doorFits [] = true := by kernel_rfl
theorem f_enter : Tryd.prog.mayEnter = true := enter_gen head_words f_lays f_refl f_door
theorem f_lifts : (Rows.fnExactDecodeWordRow.lifted == Tryd.prog.liftsFinal) = true := by
  rw [final_gen head_words]
  kernel_rfl
theorem f_make : (Tryd.prog.make == some Rows.fnExactDecodeWordRow.make) = true := by
  rw [make_gen head_words]
  kernel_rfl
end Go.Proofs.YtangofjpnhhfeabDoor
namespace Go.Proofs.YtangofjpnhhfeabDoor
open Go.RowKit
theorem wpList_copy_pad {w : World} {ops : Array Oper} {rest : List Oper} {o : Oper} {a : Act} {Q : Exit → Act → World → Prop} (hgd : o.guard = none) (d s : Operand)
    (ho : o.op = .call { callee := .builtin .copy, args := #[d, s], argTypes := #[22, 22] }) (N m cap1 cap2 : Nat) (a2 : Option Addr) (F : Nat → Int)
    (hd : a.eval d = .slice (some ⟨w.heap.size, 0, none⟩) N cap1) (hs : a.eval s = .slice a2 m cap2) (hmN : m ≤ N) (hsrc : Src w a2 m F)
    (h : ∀ w', Hid (Own w' w.heap.size N (fun j => if 0 ≤ j ∧ j < 0 + m then F (j - 0) else 0)) → Below w.heap.size w w' → wpList Tryd.prog ops Q rest (a.put o.dst (goInt m)) w') :
    wpList Tryd.prog ops Q (o :: rest) a (w.alloc (.cells (madeCells #[.int .i64 0] N) 3)) := by
  refine wpList_copy_splice hgd d s 22 22 ho 3 Tryd.underlying22 size3 (some ⟨w.heap.size, 0, none⟩) a2 N cap1 m cap2 hd hs w.heap.size 0 (madeCells #[.int .i64 0] N).toList 3 (by unfold World.alloc; simp) (xsF F m) (by rw [xsF_len]; exact (Nat.min_eq_left hmN).symm) ?_ (by rw [xsF_len, made_len]; omega) xsF_one w.heap.size w ((Below.refl _ _).alloc (Nat.le_refl _) _) (Nat.le_refl _) (fun w' hg hb => ?_)
  · intro hpos
    rw [xsF_len] at hpos
    refine ⟨rfl, ?_⟩
    rcases hsrc with hz | ⟨b, off2, rfl, hlt, hc⟩
    · omega
    · refine ⟨_, rfl, fun j v hv => ?_⟩
      obtain ⟨hj, rfl⟩ := xsF_at hv
      rw [add_at]
      exact (((Below.refl _ w).alloc (Nat.le_refl _) _).cell (p := ⟨b, off2 + j, none⟩) hlt).trans (hc j (by omega))
  · rw [xsF_len]
    exact h w' (Lib.hid (own_splice (by omega) hg.out)) hb
theorem padded_c (a : Option Addr) (l : List Int) (cap N : Nat) (w : World) (hl : l.length ≤ N) (hN : N ≤ 1048576) (hs : Src w a l.length (lf l)) : Calls Tryd.prog 91 #[.slice a l.length cap, .int .i64 N] w (OwnG w (padL l N)) := by
  have hmk := made_n N hN
  have HS := Lib.hid hs
  have HO : Hid (∀ w', Own w' w.heap.size N (fun j => if j < l.length then lf l j else 0) → Below w.heap.size w w' → OwnG w (padL l N) (.returned (.slice (some ⟨w.heap.size, 0, none⟩) N N)) w') := Lib.hid fun w' ho hb => OwnG.of_own ho (padL_len l N).symm (Nat.le_refl _) (fun j hj => by
    unfold padL
    rw [lf_tab, if_pos hj]
    by_cases hjl : j < l.length
    · rw [if_pos hjl]
    · rw [if_neg hjl, lf_out l (by omega)]) hb
  clear hs
  go_enter Tryd.func91, Tryd.ntmps91
  go_wp2_with (with_reducible refine wpList_copy_pad rfl _ _ rfl N l.length N cap _ (lf l) rfl rfl hl HS.out ?_)
  intro w2 H2 hb
  have HR := Lib.hid (HO.out w2 H2.out hb)
  clear hmk H2 HO
  go_wp2
  go_ret
  exact HR.out
end Go.Proofs.YtangofjpnhhfeabDoor
namespace Go.Proofs.YtangofjpnhhfeabDoor
open Go.RowKit
/-- A node at block b: its field, its product at block g, its branches. -/
def NodeW (w : World) (b : Nat) (f : Int) (g n : Nat) (pl pr : Option Addr) : Prop :=
  w.cell? ⟨b, 0, none⟩ = some (.int .i64 f) ∧ w.cell? ⟨b, 1, none⟩ = some (.slice (some ⟨g, 0, none⟩) (n + 1) (n + 1)) ∧ w.cell? ⟨b, 2, none⟩ = some (.pointer pl) ∧ w.cell? ⟨b, 3, none⟩ = some (.pointer pr)
theorem NodeW.lt {w : World} {b g n : Nat} {f : Int} {pl pr : Option Addr} (h : NodeW w b f g n pl pr) : b < w.heap.size := block_lt_of_cell h.1
theorem NodeW.keep {w w' : World} {b g n : Nat} {f : Int} {pl pr : Option Addr} (h : NodeW w b f g n pl pr) {N : Nat} (hb : Below N w w') (hN : b < N) : NodeW w' b f g n pl pr :=
  ⟨(hb.cell (p := ⟨b, 0, none⟩) hN).trans h.1, (hb.cell (p := ⟨b, 1, none⟩) hN).trans h.2.1, (hb.cell (p := ⟨b, 2, none⟩) hN).trans h.2.2.1, (hb.cell (p := ⟨b, 3, none⟩) hN).trans h.2.2.2⟩
/-- A tree over the points X 0, .., X (n - 1), at p; d bounds its depth. -/
def TreeW (f : Int) (w : World) : Nat → Option Addr → (Nat → Int) → Nat → Prop
  | 0, _, _, _ => False
  | d + 1, p, X, n => ∃ b g pl pr, p = some ⟨b, 0, none⟩ ∧ NodeW w b f g n pl pr ∧ Own w g (n + 1) (lf (vanL f X n)) ∧
      ((n = 1 ∧ pl = none ∧ pr = none) ∨ ∃ m k, n = m + k ∧ 1 ≤ m ∧ 1 ≤ k ∧ TreeW f w d pl X m ∧ TreeW f w d pr (fun j => X (m + j)) k)
theorem TreeW.keep {f : Int} {w w' : World} (hb : Below w.heap.size w w') : ∀ {d : Nat} {p : Option Addr} {X : Nat → Int} {n : Nat}, TreeW f w d p X n → TreeW f w' d p X n
  | 0, _, _, _, h => h
  | _ + 1, _, _, _, ⟨b, g, pl, pr, h1, h2, h3, h4⟩ => ⟨b, g, pl, pr, h1, h2.keep hb h2.lt, h3.keep hb, h4.imp id fun ⟨m, k, e, m1, k1, hl, hr⟩ => ⟨m, k, e, m1, k1, TreeW.keep hb hl, TreeW.keep hb hr⟩⟩
theorem TreeW.more {f : Int} {w : World} : ∀ {d d' : Nat} {p : Option Addr} {X : Nat → Int} {n : Nat}, TreeW f w d p X n → d ≤ d' → TreeW f w d' p X n
  | 0, _, _, _, _, h, _ => absurd h (by intro h; exact h)
  | d + 1, 0, _, _, _, _, h2 => absurd h2 (by omega)
  | d + 1, d' + 1, _, _, _, ⟨b, g, pl, pr, h1, h2, h3, h4⟩, hd => ⟨b, g, pl, pr, h1, h2, h3, h4.imp id fun ⟨m, k, e, m1, k1, hl, hr⟩ => ⟨m, k, e, m1, k1, hl.more (by omega), hr.more (by omega)⟩⟩
/-- What the tree's maker answers: a tree whose product is its own. -/
def TreeR (f : Int) (n : Nat) (F : Nat → Int) (w : World) (e : Ending) (w' : World) : Prop :=
  ∃ b g pl pr, e = .returned (.pointer (some ⟨b, 0, none⟩)) ∧ w.heap.size ≤ g ∧ NodeW w' b f g n pl pr ∧ Own w' g (n + 1) (lf (vanL f F n)) ∧ TreeW f w' n (some ⟨b, 0, none⟩) F n ∧ Below w.heap.size w w'
theorem node_new (W : World) (f : Int) (g n : Nat) (pl pr : Option Addr) : NodeW (W.alloc (.cells #[.int .i64 f, .slice (some ⟨g, 0, none⟩) (n + 1) (n + 1), .pointer pl, .pointer pr] 66)) W.heap.size f g n pl pr := by
  refine ⟨?_, ?_, ?_, ?_⟩ <;> rw [World.cell?_alloc_at _ _ _ _ rfl] <;> rfl
theorem TreeR.leaf {f : Int} {F : Nat → Int} {w W : World} {g : Nat} (hg : w.heap.size ≤ g) (ho : Own W g 2 (lf (vanL f F 1))) (hb : Below w.heap.size w W) :
    TreeR f 1 F w (.returned (.pointer (some ⟨W.heap.size, 0, none⟩))) (W.alloc (.cells #[.int .i64 f, .slice (some ⟨g, 0, none⟩) 2 2, .pointer none, .pointer none] 66)) := by
  have hk : Below W.heap.size W (W.alloc (.cells #[.int .i64 f, .slice (some ⟨g, 0, none⟩) 2 2, .pointer none, .pointer none] 66)) := (Below.refl _ _).alloc (Nat.le_refl _) _
  have hn := node_new W f g 1 none none
  exact ⟨_, g, none, none, rfl, hg, hn, ho.keep hk, ⟨_, g, none, none, rfl, hn, ho.keep hk, .inl ⟨rfl, rfl, rfl⟩⟩, hb.alloc hb.size _⟩
theorem TreeR.node {f : Int} {F : Nat → Int} {w W : World} {g m k : Nat} {pl pr : Option Addr} (m1 : 1 ≤ m) (k1 : 1 ≤ k) (hg : w.heap.size ≤ g) (ho : Own W g (m + k + 1) (lf (vanL f F (m + k)))) (hl : TreeW f W m pl F m) (hr : TreeW f W k pr (fun j => F (m + j)) k) (hb : Below w.heap.size w W) :
    TreeR f (m + k) F w (.returned (.pointer (some ⟨W.heap.size, 0, none⟩))) (W.alloc (.cells #[.int .i64 f, .slice (some ⟨g, 0, none⟩) (m + k + 1) (m + k + 1), .pointer pl, .pointer pr] 66)) := by
  have hk : Below W.heap.size W (W.alloc (.cells #[.int .i64 f, .slice (some ⟨g, 0, none⟩) (m + k + 1) (m + k + 1), .pointer pl, .pointer pr] 66)) := (Below.refl _ _).alloc (Nat.le_refl _) _
  have hn := node_new W f g (m + k) pl pr
  refine ⟨_, g, pl, pr, rfl, hg, hn, ho.keep hk, ?_, hb.alloc hb.size _⟩
  obtain ⟨d, hd⟩ : ∃ d, m + k = d + 1 := ⟨m + k - 1, by omega⟩
  have : TreeW f (W.alloc (.cells #[.int .i64 f, .slice (some ⟨g, 0, none⟩) (m + k + 1) (m + k + 1), .pointer pl, .pointer pr] 66)) (d + 1) (some ⟨W.heap.size, 0, none⟩) F (m + k) := ⟨_, g, pl, pr, rfl, hn, ho.keep hk, .inr ⟨m, k, rfl, m1, k1, (hl.keep hk).more (by omega), (hr.keep hk).more (by omega)⟩⟩
  rw [← hd] at this
  exact this
theorem src_two (w : World) (x y : Int) (F : Nat → Int) (h0 : F 0 = x) (h1 : F 1 = y) : Src (w.alloc (.cells #[.int .i64 x, .int .i64 y] 3)) (some ⟨w.heap.size, 0, none⟩) 2 F := by
  refine .inr ⟨_, 0, rfl, by simp, fun j hj => ?_⟩
  rw [World.cell?_alloc_at _ _ _ _ rfl]
  match j with
  | 0 => rw [h0]; rfl
  | 1 => rw [h1]; rfl
  | j + 2 => omega
set_option maxRecDepth 100000 in
set_option maxHeartbeats 1600000 in
theorem tree_leaf (f : Int) (b off cap : Nat) (F : Nat → Int) (w : World) (ht : Tab w) (h0 : 0 ≤ f) (h8 : f ≤ 8) (hx : 0 ≤ F 0 ∧ F 0 < P f) (c0 : w.cell? ⟨b, off, none⟩ = some (.int .i64 (F 0))) :
    Calls Tryd.prog 55 #[.int .i64 f, .slice (some ⟨b, off, none⟩) 1 cap] w (TreeR f 1 F w) := by
  have hp := P_bd h0 h8
  have HS : Hid (Calls Tryd.prog 86 #[.int .i64 f, .int .i64 0, .int .i64 (F 0)] w fun e w' => e = .returned (.int .i64 (RS (0 - F 0) (P f))) ∧ w = w') := Lib.hid (sub_c f 0 (F 0) w ht h0 h8 (by omega) (by omega) hx.1 hx.2)
  have HP : Hid (Calls Tryd.prog 71 #[.slice (some ⟨w.heap.size, 0, none⟩) 2 2] (w.alloc (.cells #[.int .i64 (RS (0 - F 0) (P f)), .int .i64 1] 3)) (fun e w' => ∃ g, e = .returned (.slice (some ⟨g, 0, none⟩) 2 2) ∧ w.heap.size ≤ g ∧ Own w' g 2 (lf (vanL f F 1)) ∧ Below w.heap.size w w')) := Lib.hid (by
    have h1 := poly_c (some ⟨w.heap.size, 0, none⟩) 2 2 (lf (linL f (F 0))) (w.alloc (.cells #[.int .i64 (RS (0 - F 0) (P f)), .int .i64 1] 3)) (by omega) (src_two w _ _ _ rfl rfl)
    refine h1.mono fun e w' h => ?_
    have e1 : cutL 2 (lf (linL f (F 0))) = vanL f F 1 := by
      rw [vanL_leaf h0 h8]
      exact cut_self (l := linL f (F 0)) (linL_pol h0 h8 _)
    rw [e1] at h
    have h2 := h.up (u := w) ((Below.refl _ _).alloc (Nat.le_refl _) _)
    obtain ⟨g, h3, h4, h5, h6⟩ := h2
    rw [vanL_len h0 h8] at h3 h5
    exact ⟨g, h3, h4, h5, h6⟩)
  generalize RS (0 - F 0) (P f) = v at *
  go_enter Tryd.func55, Tryd.ntmps55
  go_wp2_with fail
  refine HS.out.mono ?_
  rintro e w' ⟨rfl, rfl⟩
  go_wp2_with fail
  refine HP.out.mono ?_
  rintro e w2 ⟨g, rfl, hg, ho, hb⟩
  have HR := Lib.hid (TreeR.leaf hg ho hb)
  clear ho hb
  go_wp2
  go_ret
  exact HR.out
set_option maxRecDepth 100000 in
set_option maxHeartbeats 3200000 in
theorem tree_node (f : Int) (b off n m k cap : Nat) (F : Nat → Int) (w : World) (ht : Tab w) (h0 : 0 ≤ f) (h8 : f ≤ 8) (m1 : 1 ≤ m) (k1 : 1 ≤ k) (hnm : n = m + k) (hmk : m = n / 2) (h40 : n ≤ 40) (hcap : n ≤ cap)
    (HL : Hid (∀ W, Below w.heap.size w W → Calls Tryd.prog 55 #[.int .i64 f, .slice (some ⟨b, off, none⟩) m cap] W (TreeR f m F W)))
    (HR : Hid (∀ W, Below w.heap.size w W → Calls Tryd.prog 55 #[.int .i64 f, .slice (some ⟨b, off + m, none⟩) (n - m) (cap - m)] W (TreeR f k (fun j => F (m + j)) W))) :
    Calls Tryd.prog 55 #[.int .i64 f, .slice (some ⟨b, off, none⟩) n cap] w (TreeR f n F w) := by
  have hp := P_bd h0 h8
  have e0 : ((n : Int) == 0) = false := by simp; omega
  have e1 : ((n : Int) == 1) = false := by simp; omega
  have e2 : (n : Int).tdiv 2 = (m : Int) := by rw [Int.tdiv_eq_ediv_of_nonneg (by omega)]; omega
  have PP : Hid (∀ (g1 g2 : Nat) (W : World), Below w.heap.size w W → Own W g1 (m + 1) (lf (vanL f F m)) → Own W g2 (k + 1) (lf (vanL f (fun j => F (m + j)) k)) → Calls Tryd.prog 87 #[.int .i64 f, .slice (some ⟨g1, 0, none⟩) (m + 1) (m + 1), .slice (some ⟨g2, 0, none⟩) (k + 1) (k + 1)] W (fun e w' => ∃ g, e = .returned (.slice (some ⟨g, 0, none⟩) (m + k + 1) (m + k + 1)) ∧ W.heap.size ≤ g ∧ Own w' g (m + k + 1) (lf (vanL f F (m + k))) ∧ Below W.heap.size W w')) := Lib.hid fun g1 g2 W hb o1 o2 => by
    have l1 := vanL_len h0 h8 F m
    have l2 := vanL_len h0 h8 (fun j => F (m + j)) k
    have h := product_c f (some ⟨g1, 0, none⟩) (some ⟨g2, 0, none⟩) (vanL f F m) (vanL f (fun j => F (m + j)) k) (m + 1) (k + 1) W (ht.below hb) h0 h8 (by omega) (by omega) (vanL_pol h0 h8 _ _) (vanL_pol h0 h8 _ _) (by rw [l1]; exact o1.src) (by rw [l2]; exact o2.src)
    rw [l1, l2, ← vanL_add h0 h8 F m k] at h
    refine h.mono fun e w' h => ?_
    obtain ⟨g, h3, h4, h5, h6⟩ := h
    rw [vanL_len h0 h8] at h3 h5
    exact ⟨g, h3, h4, h5, h6⟩
  have HF : Hid (∀ (g : Nat) (pl pr : Option Addr) (W : World), w.heap.size ≤ g → Own W g (m + k + 1) (lf (vanL f F (m + k))) → TreeW f W m pl F m → TreeW f W k pr (fun j => F (m + j)) k → Below w.heap.size w W → TreeR f n F w (.returned (.pointer (some ⟨W.heap.size, 0, none⟩))) (W.alloc (.cells #[.int .i64 f, .slice (some ⟨g, 0, none⟩) (m + k + 1) (m + k + 1), .pointer pl, .pointer pr] 66))) := Lib.hid fun g pl pr W hg ho hl hr hb => by subst hnm; exact TreeR.node m1 k1 hg ho hl hr hb
  have b00 : Below w.heap.size w w.drew := (Below.refl _ _).drew
  have tok1 : True := trivial
  have m0 : (0 : Int) ≤ (m : Int) := by omega
  have m2 : (m : Int) ≤ n := by omega
  have m3 : (n : Int) ≤ cap := by omega
  have m4 : (m : Int) ≤ cap := by omega
  have m5 : ¬ cap = m := by omega
  have m6 : ¬ m = 0 := by omega
  clear ht hp hmk hnm hcap
  go_enter Tryd.func55, Tryd.ntmps55
  go_wp2_with fail
  go_region_held3 (fun _ => True) (first | trivial | go_keep)
    (first
      | (go_at_call 55; clear tok1; refine (HL.out _ b00).mono ?_; rintro e w1 ⟨b1, g1, pl1, pr1, rfl, hg1, N1, O1, T1, b2⟩; have b3 := below_up b00 b2 b00.size)
      | (go_at_call 55; refine (HR.out _ b3).mono ?_; rintro e w2 ⟨b4, g2, pl2, pr2, rfl, hg2, N2, O2, T2, b5⟩; have b6 := below_up b3 b5 b3.size))
  have N3 := N1.keep b5 N1.lt
  have O3 := O1.keep b5
  have T3 := T1.keep b5
  have b7 : Below w.heap.size w w2.drew := b6.drew
  have O4 : Own w2.drew g1 (m + 1) (lf (vanL f F m)) := O3
  have O5 : Own w2.drew g2 (k + 1) (lf (vanL f (fun j => F (m + j)) k)) := O2
  have k0 : w2.cell? ⟨b1, 1, none⟩ = some (.slice (some ⟨g1, 0, none⟩) (m + 1) (m + 1)) ∧ w2.cell? ⟨b4, 1, none⟩ = some (.slice (some ⟨g2, 0, none⟩) (k + 1) (k + 1)) := ⟨N3.2.1, N2.2.1⟩
  have k3 : w2.drew.cell? ⟨b1, 1, none⟩ = some (.slice (some ⟨g1, 0, none⟩) (m + 1) (m + 1)) ∧ w2.drew.cell? ⟨b4, 1, none⟩ = some (.slice (some ⟨g2, 0, none⟩) (k + 1) (k + 1)) := k0
  have T4 : TreeW f w2.drew m (some ⟨b1, 0, none⟩) F m := TreeW.keep ((Below.refl _ _).drew) T3
  have T5 : TreeW f w2.drew k (some ⟨b4, 0, none⟩) (fun j => F (m + j)) k := TreeW.keep ((Below.refl _ _).drew) T2
  have n1 := N3.lt
  have n2 := N2.lt
  clear HL HR b00 b2 b3 b5 b6 N1 O1 T1 N2 O2 T2 N3 O3 T3
  go_wp2_with fail
  go_region_held3 (fun W1 => W1.cell? ⟨b1, 1, none⟩ = some (.slice (some ⟨g1, 0, none⟩) (m + 1) (m + 1)) ∧ W1.cell? ⟨b4, 1, none⟩ = some (.slice (some ⟨g2, 0, none⟩) (k + 1) (k + 1)))
    (first | exact k0 | exact k3 | exact k4 | go_keep)
    ((go_at_call 87; refine (PP.out g1 g2 _ b7 O4 O5).mono ?_; rintro e w3 ⟨g, rfl, hg, O6, b8⟩; have k4 : w3.cell? ⟨b1, 1, none⟩ = some (.slice (some ⟨g1, 0, none⟩) (m + 1) (m + 1)) ∧ w3.cell? ⟨b4, 1, none⟩ = some (.slice (some ⟨g2, 0, none⟩) (k + 1) (k + 1)) := ⟨(b8.cell (p := ⟨b1, 1, none⟩) n1).trans k3.1, (b8.cell (p := ⟨b4, 1, none⟩) n2).trans k3.2⟩))
  have b9 := below_up b7 b8 b7.size
  have HR := Lib.hid (HF.out g (some ⟨b1, 0, none⟩) (some ⟨b4, 0, none⟩) w3 (Nat.le_trans b7.size hg) O6 (T4.keep b8) (T5.keep b8) b9)
  clear HF PP O6 T4 T5 k0 k3 k4 b8 b9 O4 O5
  go_wp2
  go_ret
  exact HR.out
theorem tree_c (f : Int) (h0 : 0 ≤ f) (h8 : f ≤ 8) : ∀ (n : Nat) (a : Option Addr) (cap : Nat) (F : Nat → Int) (w : World), Tab w → 1 ≤ n → n ≤ 40 → n ≤ cap → (∀ j, j < n → 0 ≤ F j ∧ F j < P f) → Src w a n F → Calls Tryd.prog 55 #[.int .i64 f, .slice a n cap] w (TreeR f n F w) := by
  intro n
  induction n using Nat.strongRecOn with
  | ind n ih =>
    intro a cap F w ht n1 n40 hcap hF hs
    obtain ⟨b, off, rfl, hlt, hc⟩ : ∃ b off, a = some ⟨b, off, none⟩ ∧ b < w.heap.size ∧ ∀ j, j < n → w.cell? ⟨b, off + j, none⟩ = some (.int .i64 (F j)) := by
      rcases hs with h | h
      · omega
      · exact h
    by_cases e : n = 1
    · subst e
      exact tree_leaf f b off cap F w ht h0 h8 (hF 0 (by omega)) (hc 0 (by omega))
    · obtain ⟨m, k, rfl, hm, m1, k1⟩ : ∃ m k, n = m + k ∧ m = n / 2 ∧ 1 ≤ m ∧ 1 ≤ k := ⟨n / 2, n - n / 2, by omega, rfl, by omega, by omega⟩
      exact tree_node f b off (m + k) m k cap F w ht h0 h8 m1 k1 rfl hm n40 hcap
        (Lib.hid fun W hb => ih m (by omega) _ _ _ W (ht.below hb) m1 (by omega) (by omega) (fun j hj => hF j (by omega)) (.inr ⟨b, off, rfl, Nat.lt_of_lt_of_le hlt hb.size, fun j hj => (hb.cell (p := ⟨b, off + j, none⟩) hlt).trans (hc j (by omega))⟩))
        (Lib.hid fun W hb => by rw [show m + k - m = k by omega]; exact ih k (by omega) _ _ _ W (ht.below hb) k1 (by omega) (by omega) (fun j hj => hF (m + j) (by omega)) (.inr ⟨b, off + m, rfl, Nat.lt_of_lt_of_le hlt hb.size, fun j hj => (hb.cell (p := ⟨b, off + m + j, none⟩) hlt).trans (by rw [show off + m + j = off + (m + j) by omega]; exact hc (m + j) (by omega))⟩))
end Go.Proofs.YtangofjpnhhfeabDoor
namespace Go.Proofs.YtangofjpnhhfeabDoor
open Go.RowKit
theorem own_owns {w : World} {g n base : Nat} {F : Nat → Int} (h : Own w g n F) (hg : base ≤ g) (hn : n ≤ 1048576) : w.ownsRow base 3 1 (.slice (some ⟨g, 0, none⟩) n n) n (xsF F n) := by
  obtain ⟨cur, h1, h2, h3⟩ := h
  refine ⟨by rw [xsF_len, Nat.mul_one], .inr ⟨g, n, cur, rfl, hg, h1, Nat.le_refl _, by unfold maxLen; omega, by omega, ?_⟩⟩
  rw [Nat.mul_one]
  refine List.ext_getElem? fun j => ?_
  by_cases hj : j < n
  · have h4 := h3 j hj
    rw [List.getElem?_take_of_lt hj]
    have h5 : cur.toList[j]? = cur[j]? := by simp
    rw [h5, h4]
    simp [xsF, hj]
  · rw [List.getElem?_eq_none (by rw [List.length_take]; omega), List.getElem?_eq_none (by rw [xsF_len]; omega)]
theorem OwnG.owns {w w' : World} {l : List Int} {e : Ending} (h : OwnG w l e w') (hl : l.length ≤ 1048576) : OwnsL w l e w' := by
  obtain ⟨g, rfl, hg, ho, hb⟩ := h
  exact ⟨_, rfl, own_owns ho hg hl, hb⟩
theorem ownsU_keep {w w' : World} {B n : Nat} {v : Value} {xs : List Value} (h : w.ownsRow B 3 1 v n xs) (hb : Below w.heap.size w w') : w'.ownsRow B 3 1 v n xs := h.kept (row := none) ⟨hb.os, hb.tape, hb.output, hb.size, fun i hi _ => hb.block i hi⟩ (by cases v.ownBlock <;> simp)
theorem ownsU_low {w : World} {B B' n : Nat} {v : Value} {xs : List Value} (h : w.ownsRow B 3 1 v n xs) (hB : B' ≤ B) : w.ownsRow B' 3 1 v n xs :=
  ⟨h.1, h.2.imp id fun ⟨g, cap, cur, h1, h2, h3⟩ => ⟨g, cap, cur, h1, Nat.le_trans hB h2, h3⟩⟩
theorem xsF_app (F G H : Nat → Int) (m k : Nat) (h1 : ∀ j, j < m → F j = H j) (h2 : ∀ j, j < k → G j = H (m + j)) : xsF F m ++ xsF G k = xsF H (m + k) := by
  unfold xsF
  rw [List.range_add, List.map_append, List.map_map]
  congr 1
  · exact List.map_congr_left fun j hj => by rw [h1 j (List.mem_range.1 hj)]
  · exact List.map_congr_left fun j hj => by show Value.int .i64 (G j) = Value.int .i64 (H (m + j)); rw [h2 j (List.mem_range.1 hj)]
theorem news_ow {w : World} {B n : Nat} {F : Nat → Int} {g cap : Nat} (h : w.ownsRow B 3 1 (.slice (some ⟨g, 0, none⟩) n cap) n (xsF F n)) (hn : n ≠ 0) : ∀ j u, (xsF F n)[j]? = some u → w.cell? ((⟨g, 0, none⟩ : Addr).add j) = some u := fun j u hu => by
  obtain ⟨hj, rfl⟩ := xsF_at hu
  obtain ⟨g2, cap2, e, _, ho⟩ := OwnV.of_owns h hn
  injection e with e1
  injection e1 with e1
  injection e1 with e1
  subst e1
  have hadd : (⟨g, 0, none⟩ : Addr).add j = ⟨g, j, none⟩ := by unfold Addr.add; split <;> simp_all
  rw [hadd]
  exact ho.cell hj
theorem values_nil (v : Value) (w : World) : Calls Tryd.prog 58 #[.pointer none, v] w fun e w' => e = .returned (.slice none 0 0) ∧ w = w' := by
  go_enter Tryd.func58, Tryd.ntmps58
  go_wp2
  go_ret
  exact ⟨rfl, rfl⟩
set_option maxRecDepth 100000 in
set_option maxHeartbeats 3200000 in
theorem values_leaf (f : Int) (h0 : 0 ≤ f) (h8 : f ≤ 8) (b g : Nat) (X : Nat → Int) (aa : Option Addr) (l : List Int) (cap : Nat) (w : World) (hN : NodeW w b f g 1 none none) (hO : Own w g 2 (lf (vanL f X 1))) (ht : Tab w) (hl : Pol f l) (hn : l.length ≤ 4096) (hs : Src w aa l.length (lf l)) :
    Calls Tryd.prog 58 #[.pointer (some ⟨b, 0, none⟩), .slice aa l.length cap] w (OwnsL w (valsL f X l 1)) := by
  have hv := vanL_len h0 h8 X 1
  have hleaf := leaf_val h0 h8 X hl
  have RM : Hid (∀ W, Below w.heap.size w W → Calls Tryd.prog 90 #[.int .i64 f, .slice aa l.length cap, .slice (some ⟨g, 0, none⟩) 2 2] W (OwnG W (remL f l (vanL f X 1)))) := Lib.hid fun W hb => by
    have := remainder_c f aa (some ⟨g, 0, none⟩) l (vanL f X 1) cap 2 W (ht.below hb) h0 h8 hn (by omega) (by omega) hl (vanL_pol h0 h8 _ _) (hs.keep hb) (by rw [hv]; exact (hO.keep hb).src)
    rwa [hv] at this
  have PD : Hid (∀ (g1 : Nat) (W W1 : World), Own W1 g1 (remL f l (vanL f X 1)).length (lf (remL f l (vanL f X 1))) → Calls Tryd.prog 91 #[.slice (some ⟨g1, 0, none⟩) (remL f l (vanL f X 1)).length (remL f l (vanL f X 1)).length, .int .i64 1] W1 (OwnG W1 (valsL f X l 1))) := Lib.hid fun g1 W W1 ho => by
    have := padded_c (some ⟨g1, 0, none⟩) (remL f l (vanL f X 1)) (remL f l (vanL f X 1)).length 1 W1 hleaf.1 (by omega) ho.src
    rwa [hleaf.2] at this
  have HF : Hid (∀ e W W', Below w.heap.size w W → OwnG W (valsL f X l 1) e W' → OwnsL w (valsL f X l 1) e W') := Lib.hid fun e W W' hb h => (h.up hb).owns (by rw [valsL_len]; omega)
  have b0 : Below w.heap.size w w.drew := (Below.refl _ _).drew
  have k0 : w.drew.cell? ⟨b, 0, none⟩ = some (.int .i64 f) ∧ w.drew.cell? ⟨b, 1, none⟩ = some (.slice (some ⟨g, 0, none⟩) 2 2) := ⟨hN.1, hN.2.1⟩
  clear hl hs hO ht hleaf hv hn
  generalize remL f l (vanL f X 1) = r at *
  generalize valsL f X l 1 = V at *
  generalize l.length = n at *
  go_enter Tryd.func58, Tryd.ntmps58
  go_wp2_with fail
  go_region_held3 (fun W1 => W1.cell? ⟨b, 0, none⟩ = some (.int .i64 f) ∧ W1.cell? ⟨b, 1, none⟩ = some (.slice (some ⟨g, 0, none⟩) 2 2))
    (first | exact ⟨hN.1, hN.2.1⟩ | exact k0 | exact k1 | go_keep)
    ((go_at_call 90; refine (RM.out _ b0).mono ?_; rintro e w1 ⟨g1, rfl, hg1, o1, b1⟩; have b2 := below_up b0 b1 b0.size; have hN1 := hN.keep b2 hN.lt; have k1 : w1.cell? ⟨b, 0, none⟩ = some (.int .i64 f) ∧ w1.cell? ⟨b, 1, none⟩ = some (.slice (some ⟨g, 0, none⟩) 2 2) := ⟨hN1.1, hN1.2.1⟩))
  have c2 := hN1.2.2.1
  clear k1 k0 hN
  go_wp2_with fail
  refine (PD.out g1 w w1 o1).mono ?_
  intro e w2 h2
  have HR := Lib.hid (HF.out _ _ _ b2 h2)
  obtain ⟨v, rfl, _⟩ := h2
  clear o1 PD HF
  go_wp2
  go_ret
  exact HR.out
set_option maxRecDepth 100000 in
set_option maxHeartbeats 6400000 in
theorem values_node (f : Int) (h0 : 0 ≤ f) (h8 : f ≤ 8) (b g m k : Nat) (p1 p2 : Addr) (X : Nat → Int) (aa : Option Addr) (l : List Int) (cap : Nat) (w : World) (m1 : 1 ≤ m) (k1 : 1 ≤ k) (h40 : m + k ≤ 40) (hN : NodeW w b f g (m + k) (some p1) (some p2)) (hO : Own w g (m + k + 1) (lf (vanL f X (m + k)))) (ht : Tab w) (hl : Pol f l) (hn : l.length ≤ 4096) (hs : Src w aa l.length (lf l))
    (VL : Hid (∀ (g1 : Nat) (W : World), Below w.heap.size w W → Own W g1 (remL f l (vanL f X (m + k))).length (lf (remL f l (vanL f X (m + k)))) → Calls Tryd.prog 58 #[.pointer (some p1), .slice (some ⟨g1, 0, none⟩) (remL f l (vanL f X (m + k))).length (remL f l (vanL f X (m + k))).length] W (OwnsL W (valsL f X l m))))
    (VR : Hid (∀ (g1 : Nat) (W : World), Below w.heap.size w W → Own W g1 (remL f l (vanL f X (m + k))).length (lf (remL f l (vanL f X (m + k)))) → Calls Tryd.prog 58 #[.pointer (some p2), .slice (some ⟨g1, 0, none⟩) (remL f l (vanL f X (m + k))).length (remL f l (vanL f X (m + k))).length] W (OwnsL W (valsL f (fun j => X (m + j)) l k)))) :
    Calls Tryd.prog 58 #[.pointer (some ⟨b, 0, none⟩), .slice aa l.length cap] w (OwnsL w (valsL f X l (m + k))) := by
  have hv := vanL_len h0 h8 X (m + k)
  have RM : Hid (∀ W, Below w.heap.size w W → Calls Tryd.prog 90 #[.int .i64 f, .slice aa l.length cap, .slice (some ⟨g, 0, none⟩) (m + k + 1) (m + k + 1)] W (OwnG W (remL f l (vanL f X (m + k))))) := Lib.hid fun W hb => by
    have := remainder_c f aa (some ⟨g, 0, none⟩) l (vanL f X (m + k)) cap (m + k + 1) W (ht.below hb) h0 h8 hn (by omega) (by omega) hl (vanL_pol h0 h8 _ _) (hs.keep hb) (by rw [hv]; exact (hO.keep hb).src)
    rwa [hv] at this
  have HF : Hid (∀ (v : Value) (W' : World), W'.ownsRow w.heap.size 3 1 v (m + k) (xsF (lf (valsL f X l m)) m ++ xsF (lf (valsL f (fun j => X (m + j)) l k)) k) → Below w.heap.size w W' → OwnsL w (valsL f X l (m + k)) (.returned v) W') := Lib.hid fun v W' h hb => by
    rw [xsF_app _ _ (lf (valsL f X l (m + k))) m k (fun j hj => by rw [lf_valsL hj, lf_valsL (by omega)]) (fun j hj => by rw [lf_valsL hj, lf_valsL (by omega)])] at h
    exact owns_to h (valsL_len _ _ _ _).symm (fun _ _ => rfl) hb
  have LL : Hid (∀ (W : World) (e : Ending) (w' : World), OwnsL W (valsL f X l m) e w' → ∃ g1 c1, e = .returned (.slice (some ⟨g1, 0, none⟩) m c1) ∧ W.heap.size ≤ g1 ∧ g1 < w'.heap.size ∧ w'.ownsRow W.heap.size 3 1 (.slice (some ⟨g1, 0, none⟩) m c1) m (xsF (lf (valsL f X l m)) m) ∧ Below W.heap.size W w') := Lib.hid fun W e w' h => by
    obtain ⟨v, rfl, ho, hb⟩ := h
    rw [valsL_len] at ho
    obtain ⟨g1, c1, rfl, hg, hlt⟩ := ho.form (by omega)
    exact ⟨g1, c1, rfl, hg, hlt, ho, hb⟩
  have LR : Hid (∀ (W : World) (e : Ending) (w' : World), OwnsL W (valsL f (fun j => X (m + j)) l k) e w' → ∃ g1 c1, e = .returned (.slice (some ⟨g1, 0, none⟩) k c1) ∧ W.heap.size ≤ g1 ∧ g1 < w'.heap.size ∧ w'.ownsRow W.heap.size 3 1 (.slice (some ⟨g1, 0, none⟩) k c1) k (xsF (lf (valsL f (fun j => X (m + j)) l k)) k) ∧ Below W.heap.size W w') := Lib.hid fun W e w' h => by
    obtain ⟨v, rfl, ho, hb⟩ := h
    rw [valsL_len] at ho
    obtain ⟨g1, c1, rfl, hg, hlt⟩ := ho.form (by omega)
    exact ⟨g1, c1, rfl, hg, hlt, ho, hb⟩
  have b0 : Below w.heap.size w w.drew := (Below.refl _ _).drew
  have k0 : w.drew.cell? ⟨b, 0, none⟩ = some (.int .i64 f) ∧ w.drew.cell? ⟨b, 1, none⟩ = some (.slice (some ⟨g, 0, none⟩) (m + k + 1) (m + k + 1)) := ⟨hN.1, hN.2.1⟩
  obtain ⟨i0, hi0, hz, hz1, hz2⟩ := info_parts info3
  have HI := Lib.hid hi0
  have HZ0 := Lib.hid hz
  have HZ1 := Lib.hid hz1
  have HZ2 := Lib.hid hz2
  clear hl hs hO ht hv hn hi0 hz hz1 hz2
  generalize remL f l (vanL f X (m + k)) = r at *
  generalize valsL f X l (m + k) = V at *
  generalize valsL f X l m = V1 at *
  generalize valsL f (fun j => X (m + j)) l k = V2 at *
  generalize l.length = n at *
  go_enter Tryd.func58, Tryd.ntmps58
  go_wp2_with fail
  go_region_held3 (fun W1 => W1.cell? ⟨b, 0, none⟩ = some (.int .i64 f) ∧ W1.cell? ⟨b, 1, none⟩ = some (.slice (some ⟨g, 0, none⟩) (m + k + 1) (m + k + 1)))
    (first | exact ⟨hN.1, hN.2.1⟩ | exact k0 | exact k1 | go_keep)
    ((go_at_call 90; refine (RM.out _ b0).mono ?_; rintro e w1 ⟨g1, rfl, hg1, o1, b1⟩; have b2 := below_up b0 b1 b0.size; have hN1 := hN.keep b2 hN.lt; have k1 : w1.cell? ⟨b, 0, none⟩ = some (.int .i64 f) ∧ w1.cell? ⟨b, 1, none⟩ = some (.slice (some ⟨g, 0, none⟩) (m + k + 1) (m + k + 1)) := ⟨hN1.1, hN1.2.1⟩))
  have c2 := hN1.2.2.1
  have c3 := hN1.2.2.2
  have lb := hN1.lt
  have b3 : Below w.heap.size w w1.drew := b2.drew
  have o2 : Own w1.drew g1 r.length (lf r) := o1
  have k2 : w1.drew.cell? ⟨b, 2, none⟩ = some (.pointer (some p1)) ∧ w1.drew.cell? ⟨b, 3, none⟩ = some (.pointer (some p2)) := ⟨c2, c3⟩
  have tok1 : True := trivial
  clear k1 k0 hN1 RM b0 b1
  go_wp2_with fail
  go_region_held3 (fun W1 => W1.cell? ⟨b, 2, none⟩ = some (.pointer (some p1)) ∧ W1.cell? ⟨b, 3, none⟩ = some (.pointer (some p2)))
    (first | exact ⟨c2, c3⟩ | exact k2 | exact k3 | exact k4 | exact k5 | go_keep)
    (first
      | (go_at_call 58; clear tok1; refine (VL.out g1 _ b3 o2).mono ?_; intro e w3 h3; obtain ⟨g3, q3, rfl, hg3, l3, o3, b4⟩ := LL.out _ _ _ h3; clear h3; have b5 := below_up b3 b4 b3.size; have o4 := o2.keep b4; have hk3 := hN.keep b5 hN.lt; have k3 : w3.cell? ⟨b, 2, none⟩ = some (.pointer (some p1)) ∧ w3.cell? ⟨b, 3, none⟩ = some (.pointer (some p2)) := ⟨hk3.2.2.1, hk3.2.2.2⟩)
      | (go_at_call 58; refine (VR.out g1 _ b5 o4).mono ?_; intro e w4 h4; obtain ⟨g4, q4, rfl, hg4, l4, o5, b6⟩ := LR.out _ _ _ h4; clear h4; have b7 := below_up b5 b6 b5.size; have o6 := ownsU_low (ownsU_keep o3 b6) (B' := w.heap.size) b3.size; have hk4 := hN.keep b7 hN.lt; have k4 : w4.cell? ⟨b, 2, none⟩ = some (.pointer (some p1)) ∧ w4.cell? ⟨b, 3, none⟩ = some (.pointer (some p2)) := ⟨hk4.2.2.1, hk4.2.2.2⟩)
      | (refine step_append_lies _ (by rfl) _ _ _ (by rfl) w.heap.size 3 i0 _ 1 8 Tryd.underlying22 HI.out HZ0.out HZ1.out HZ2.out rfl (by omega) _ m _ (by rfl) o6 ⟨g4, 0, none⟩ k q4 (xsF (lf V2) k) (by rfl) (by rw [xsF_len, Nat.mul_one]) (news_ow o5 (by omega)) xsF_one (by omega) (by unfold maxLen; omega) (by omega) b7.size w4.heap.size rfl ?_; intro g5 q5 w5 o7 hgrow hat hlt'; have lb2 := hN.lt; have sz3 := b3.size; have sz7 := b7.size; have k5 : w5.cell? ⟨b, 2, none⟩ = some (.pointer (some p1)) ∧ w5.cell? ⟨b, 3, none⟩ = some (.pointer (some p2)) := ⟨(hgrow.cell_far ⟨b, 2, none⟩ (by show b < _; omega) (by show some b ≠ some g3; intro e; injection e with e; omega)).trans k4.1, (hgrow.cell_far ⟨b, 3, none⟩ (by show b < _; omega) (by show some b ≠ some g3; intro e; injection e with e; omega)).trans k4.2⟩))
  have HR := Lib.hid (HF.out _ w5 o7 (b7.grown hgrow b7.size (own_ge o6)))
  clear k2 k3 k4 k5 o7 hgrow hat o5 o6 o4 o2 HF VL VR LL LR
  go_wp2
  go_ret
  exact HR.out
theorem values_c (f : Int) (h0 : 0 ≤ f) (h8 : f ≤ 8) : ∀ (d : Nat) (p : Option Addr) (X : Nat → Int) (n : Nat) (aa : Option Addr) (l : List Int) (cap : Nat) (w : World), TreeW f w d p X n → n ≤ 40 → Tab w → Pol f l → l.length ≤ 4096 → Src w aa l.length (lf l) → Calls Tryd.prog 58 #[.pointer p, .slice aa l.length cap] w (OwnsL w (valsL f X l n)) := by
  intro d
  induction d with
  | zero => intro p X n aa l cap w h; exact absurd h (by intro h; exact h)
  | succ d ih =>
    rintro p X n aa l cap w ⟨b, g, pl, pr, rfl, hN, hO, hb⟩ h40 ht hl hn hs
    rcases hb with ⟨rfl, rfl, rfl⟩ | ⟨m, k, rfl, m1, k1, hL, hR⟩
    · exact values_leaf f h0 h8 b g X aa l cap w hN hO ht hl hn hs
    · have hv := vanL_len h0 h8 X (m + k)
      have hlen := remL_len (f := f) (a := l) (b := vanL f X (m + k)) (by omega)
      have hpol := remL_pol h0 h8 hl (vanL_pol h0 h8 X (m + k)) (by omega)
      have hp1 : ∃ q, pl = some q := by
        cases d with
        | zero => exact absurd hL (by intro h; exact h)
        | succ d => obtain ⟨q, _, _, _, h, _⟩ := hL; exact ⟨_, h⟩
      have hp2 : ∃ q, pr = some q := by
        cases d with
        | zero => exact absurd hR (by intro h; exact h)
        | succ d => obtain ⟨q, _, _, _, h, _⟩ := hR; exact ⟨_, h⟩
      obtain ⟨p1, rfl⟩ := hp1
      obtain ⟨p2, rfl⟩ := hp2
      refine values_node f h0 h8 b g m k p1 p2 X aa l cap w m1 k1 h40 hN hO ht hl hn hs (Lib.hid fun g1 W hb ho => ?_) (Lib.hid fun g1 W hb ho => ?_)
      · have h1 := ih (some p1) X m (some ⟨g1, 0, none⟩) (remL f l (vanL f X (m + k))) (remL f l (vanL f X (m + k))).length W (hL.keep hb) (by omega) (ht.below hb) hpol (by omega) ho.src
        rwa [valsL_rem h0 h8 X hl (by omega)] at h1
      · have h1 := ih (some p2) (fun j => X (m + j)) k (some ⟨g1, 0, none⟩) (remL f l (vanL f X (m + k))) (remL f l (vanL f X (m + k))).length W (hR.keep hb) (by omega) (ht.below hb) hpol (by omega) ho.src
        rwa [valsL_part h0 h8 X hl] at h1
end Go.Proofs.YtangofjpnhhfeabDoor
namespace Go.Proofs.YtangofjpnhhfeabDoor
open Go.RowKit
theorem Src.congr {w : World} {a : Option Addr} {n : Nat} {F G : Nat → Int} (h : Src w a n F) (e : ∀ j, j < n → F j = G j) : Src w a n G := by
  refine h.imp id ?_
  rintro ⟨b, off, e1, hlt, hc⟩
  exact ⟨b, off, e1, hlt, fun j hj => by rw [hc j hj, e j hj]⟩
end Go.Proofs.YtangofjpnhhfeabDoor
namespace Go.Proofs.YtangofjpnhhfeabDoor
open Go.RowKit
set_option maxRecDepth 100000 in
set_option maxHeartbeats 1600000 in
theorem pointwise_some (f : Int) (b off b2 off2 n cap cap2 : Nat) (A B : Nat → Int) (w : World) (ht : Tab w) (h0 : 0 ≤ f) (h8 : f ≤ 8) (hn : n ≤ 1048576) (hA : ∀ j, 0 ≤ A j ∧ A j < P f) (hB : ∀ j, 0 ≤ B j ∧ B j < P f) (hlt : b < w.heap.size) (hlt2 : b2 < w.heap.size)
    (hc : ∀ j, j < n → w.cell? ⟨b, off + j, none⟩ = some (.int .i64 (A j))) (hc2 : ∀ j, j < n → w.cell? ⟨b2, off2 + j, none⟩ = some (.int .i64 (B j))) :
    Calls Tryd.prog 89 #[.int .i64 f, .slice (some ⟨b, off, none⟩) n cap, .slice (some ⟨b2, off2, none⟩) n cap2] w (CopyP w n (fun j => RS (A j * B j) (P f))) := by
  have HC := Lib.hid hc
  have HC2 := Lib.hid hc2
  have HA := Lib.hid hA
  have HB := Lib.hid hB
  clear hc hc2 hA hB
  have hmk := made_n n hn
  go_enter Tryd.func89, Tryd.ntmps89
  go_wp2_with fail
  clear hmk
  go_loopw [8, 9, 15] (fun _ _ i wr => ∃ j : Nat, i = .int .i64 j ∧ j ≤ n ∧ Own wr w.heap.size n (fun x => if x < j then RS (A x * B x) (P f) else 0) ∧ Below w.heap.size w wr) (fun _ _ i _ => n - (intOf i).toNat)
  case atStart =>
    refine ⟨0, rfl, Nat.zero_le _, ?_, (Below.refl _ _).alloc (Nat.le_refl _) _⟩
    exact (World.rowIs_made w (.int .i64 0) n 3).congr fun j _ => by simp
  case round =>
    obtain ⟨j, rfl, hj, ho, hb⟩ := hrel
    by_cases h1 : j < n
    · have c1 : wr.cell? ⟨b, off + j, none⟩ = some (.int .i64 (A j)) := (hb.cell (p := ⟨b, off + j, none⟩) hlt).trans (HC.out j h1)
      have c2 : wr.cell? ⟨b2, off2 + j, none⟩ = some (.int .i64 (B j)) := (hb.cell (p := ⟨b2, off2 + j, none⟩) hlt2).trans (HC2.out j h1)
      have hd1 : decide ((j : Int) < n) = true := decide_eq_true (by omega)
      have HS := Lib.hid (copy_set (w := w) (F := fun x => RS (A x * B x) (P f)) ho)
      have c3 := World.rowIs.cell ho h1
      have c4 := World.rowIs.frozen ho j
      have hAj := HA.out j
      have hBj := HB.out j
      clear ho
      go_wp2_with fail
      refine (mul_c f (A j) (B j) wr (ht.below hb) h0 h8 hAj.1 hAj.2 hBj.1 hBj.2).mono ?_
      rintro e w' ⟨rfl, rfl⟩
      go_wp2
      go_roundw
      case rel => exact ⟨j + 1, by go_num, by omega, HS.out, hb.setCell (Nat.le_refl _) _⟩
      case measure => simp [intOf]; omega
    · have hd : decide (j < n) = false := by simpa using h1
      obtain rfl : j = n := by omega
      go_wp2
      go_ret
      exact ⟨rfl, World.rowIs.congr ho (fun x hx => by simp [hx]), hb⟩
end Go.Proofs.YtangofjpnhhfeabDoor
namespace Go.Proofs.YtangofjpnhhfeabDoor
open Go.RowKit
theorem inv_bd {f x : Int} (h0 : 0 ≤ f) (h8 : f ≤ 8) (x0 : 0 < x) (x1 : x < P f) : 0 ≤ mPower f x (-1) ∧ mPower f x (-1) < P f := by
  have := (inv_one h0 h8 (z := x) (by unfold RS; rw [Int.emod_eq_of_lt (by omega) x1]; omega)).2
  omega
end Go.Proofs.YtangofjpnhhfeabDoor
