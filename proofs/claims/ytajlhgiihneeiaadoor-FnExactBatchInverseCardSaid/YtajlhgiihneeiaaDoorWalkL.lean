/-
  Inverses of a list, the program's.
-/
import Derived.Test.YtajlhgiihneeiaaDoorWalkK
import Derived.Test.YtajlhgiihneeiaaDoorNumB
namespace Go.Proofs.YtajlhgiihneeiaaDoor
open Go.RowKit
theorem own_step {wr : World} {g n k : Nat} {F : Nat → Int} (h : Own wr g n (fun j => if j < k then F j else 0)) : Own (wr.setCell ⟨g, k, none⟩ (.int .i64 (F k))) g n (fun j => if j < k + 1 then F j else 0) := by
  refine (World.rowIs.set h k (.int .i64 (F k))).congr fun j _ => ?_
  by_cases h1 : j = k
  · subst h1; simp
  · by_cases h2 : j < k
    · simp [h1, h2, show j < k + 1 by omega]
    · simp [h1, h2, show ¬ j < k + 1 by omega]
theorem own_other {wr : World} {g g2 n k : Nat} {F : Nat → Int} {v : Value} (h : Own wr g n F) (hne : g ≠ g2) : Own (wr.setCell ⟨g2, k, none⟩ v) g n F := World.rowIs.setOther h (a := ⟨g2, k, none⟩) hne v
/-- The state of the way back. -/
def Back (f : Int) (Z : Nat → Int) (w wr : World) (n : Nat) (i b : Int) : Prop :=
  RS (b * prodF f Z (i + 1).toNat) (P f) = 1 ∧ Own wr w.heap.size n (fun j => if (j : Int) ≤ i then RS (Z j) (P f) else invF f (Z j)) ∧ Own wr (w.heap.size + 1) n (fun j => prodF f Z j) ∧ Below w.heap.size w wr
theorem Back.yes {f : Int} (h0 : 0 ≤ f) (h8 : f ≤ 8) {Z : Nat → Int} {w wr : World} {n k : Nat} {b : Int} (h : Back f Z w wr n k b) (hz : RS (Z k) (P f) ≠ 0) :
    Back f Z w (wr.setCell ⟨w.heap.size, k, none⟩ (.int .i64 (RS (b * prodF f Z k) (P f)))) n (k - 1) (RS (b * RS (Z k) (P f)) (P f)) := by
  obtain ⟨h1, h2, h3, h4⟩ := h
  rw [show ((k : Int) + 1).toNat = k + 1 by omega] at h1
  obtain ⟨e1, e2⟩ := back_yes h0 h8 hz h1
  refine ⟨by rw [show ((k : Int) - 1 + 1).toNat = k by omega]; exact e2, ?_, own_other h3 (by omega), h4.setCell (Nat.le_refl _) _⟩
  rw [e1]
  refine (World.rowIs.set h2 k (.int .i64 (invF f (Z k)))).congr fun j _ => ?_
  by_cases hj : j = k
  · subst hj; simp [show ¬ (j : Int) ≤ (j : Int) - 1 by omega]
  · by_cases hj2 : (j : Int) ≤ k
    · simp [hj, hj2, show (j : Int) ≤ (k : Int) - 1 by omega]
    · simp [hj, hj2, show ¬ (j : Int) ≤ (k : Int) - 1 by omega]
theorem Back.no {f : Int} {Z : Nat → Int} {w wr : World} {n k : Nat} {b : Int} (h : Back f Z w wr n k b) (hz : RS (Z k) (P f) = 0) : Back f Z w wr n (k - 1) b := by
  obtain ⟨h1, h2, h3, h4⟩ := h
  rw [show ((k : Int) + 1).toNat = k + 1 by omega] at h1
  obtain ⟨e1, e2⟩ := back_no hz h1
  refine ⟨by rw [show ((k : Int) - 1 + 1).toNat = k by omega]; exact e1, ?_, h3, h4⟩
  refine World.rowIs.congr h2 fun j _ => ?_
  by_cases hj : j = k
  · subst hj; simp [hz, e2]
  · by_cases hj2 : (j : Int) ≤ k
    · simp [hj2, show (j : Int) ≤ (k : Int) - 1 by omega]
    · simp [hj2, show ¬ (j : Int) ≤ (k : Int) - 1 by omega]
/-- The state of the way forth. -/
def Forth (f : Int) (Z : Nat → Int) (w wr : World) (n k : Nat) : Prop :=
  Own wr w.heap.size n (fun j => if j < k then RS (Z j) (P f) else 0) ∧ Own wr (w.heap.size + 1) n (fun j => if j < k then prodF f Z j else 0) ∧ Below w.heap.size w wr
theorem Forth.step {f : Int} {Z : Nat → Int} {w wr : World} {n k : Nat} (h : Forth f Z w wr n k) :
    Forth f Z w ((wr.setCell ⟨w.heap.size, k, none⟩ (.int .i64 (RS (Z k) (P f)))).setCell ⟨w.heap.size + 1, k, none⟩ (.int .i64 (prodF f Z k))) n (k + 1) := by
  obtain ⟨h1, h2, h3⟩ := h
  exact ⟨own_other (own_step (F := fun j => RS (Z j) (P f)) h1) (by omega), own_step (F := fun j => prodF f Z j) (own_other h2 (by omega)), (h3.setCell (Nat.le_refl _) _).setCell (Nat.le_succ _) _⟩
theorem Forth.back {f : Int} (h0 : 0 ≤ f) (h8 : f ≤ 8) {Z : Nat → Int} {w wr : World} {n : Nat} (h : Forth f Z w wr n n) : Back f Z w wr n ((n : Int) - 1) (PW (P f) (prodF f Z n) (P f - 2)) := by
  have hb := prodF_bd h0 h8 Z n
  refine ⟨by rw [show ((n : Int) - 1 + 1).toNat = n by omega]; exact back_first h0 h8 hb.1 hb.2, World.rowIs.congr h.1 fun j hj => ?_, World.rowIs.congr h.2.1 fun j hj => ?_, h.2.2⟩
  · simp [hj, show (j : Int) ≤ (n : Int) - 1 by omega]
  · simp [hj]
def InvP (f : Int) (Z : Nat → Int) (w : World) (n : Nat) (e : Ending) (w' : World) : Prop := CopyP w n (fun j => invF f (Z j)) e w'
theorem inverseL_c (n a : Int) (w : World) (ht : Tab w) (h0 : 0 ≤ n) (h8 : n ≤ 8) (ha : 0 ≤ a) (ha2 : a < P n) : Calls Tryd.prog 33 #[.int .i64 n, .int .i64 a] w fun e w' => e = .returned (.int .i64 (PW (P n) a (P n - 2))) ∧ w = w' := by
  have hp := P_bd h0 h8
  go_enter Tryd.func33, Tryd.ntmps33
  go_wp2_with fail
  refine (prime_c n w ht h0 h8).mono ?_
  rintro e w' ⟨rfl, rfl⟩
  go_wp2_with fail
  refine (power_c n a (P n - 2) w ht h0 h8 ha ha2 (by omega) (by omega)).mono ?_
  rintro e w' ⟨rfl, rfl⟩
  go_wp2
  go_ret
  exact ⟨rfl, rfl⟩
set_option maxRecDepth 100000 in
set_option maxHeartbeats 2000000 in
theorem inverses_some (f : Int) (b off n cap : Nat) (Z : Nat → Int) (w : World) (ht : Tab w) (h0 : 0 ≤ f) (h8 : f ≤ 8) (hn : n ≤ 4096) (hlt : b < w.heap.size) (hc : ∀ j, j < n → w.cell? ⟨b, off + j, none⟩ = some (.int .i64 (Z j))) :
    Calls Tryd.prog 25 #[.int .i64 f, .slice (some ⟨b, off, none⟩) n cap] w (InvP f Z w n) := by
  have HC := Lib.hid hc
  clear hc
  have hp := P_bd h0 h8
  have hmk := run_make_row' (P := Tryd.prog) 24 3 (.int .i64 0) 8 Tryd.underlying24 info3 rfl .i64 .i64 n (by omega) (by omega)
  go_enter Tryd.func25, Tryd.ntmps25
  go_wp2_with fail
  clear hmk
  go_loopw [7, 8, 9, 21] (fun p _ _ i wr => ∃ k : Nat, i = .int .i64 k ∧ k ≤ n ∧ p = .int .i64 (prodF f Z k) ∧ Forth f Z w wr n k) (fun _ _ _ i _ => n - (intOf i).toNat)
  case atStart =>
    refine ⟨0, rfl, Nat.zero_le _, rfl, ?_, ?_, ((Below.refl _ _).alloc (Nat.le_refl _) _).alloc (by simp) _⟩
    · exact ((World.rowIs_made w (.int .i64 0) n 3).alloc _).congr fun j _ => by simp
    · have := World.rowIs_made (w.alloc (.cells (madeCells #[.int .i64 0] n) 3)) (.int .i64 0) n 3
      rw [show (w.alloc (.cells (madeCells #[.int .i64 0] n) 3)).heap.size = w.heap.size + 1 by simp] at this
      exact this.congr fun j _ => by simp
  case round =>
    obtain ⟨k, rfl, hk, rfl, hf⟩ := hrel
    by_cases h1 : k < n
    · have c1 : wr.cell? ⟨b, off + k, none⟩ = some (.int .i64 (Z k)) := (hf.2.2.cell (p := ⟨b, off + k, none⟩) hlt).trans (HC.out k h1)
      have c2 := World.rowIs.cell hf.1 h1
      have c3 := World.rowIs.frozen hf.1 k
      have c4 := World.rowIs.cell hf.2.1 h1
      have c5 := World.rowIs.frozen hf.2.1 k
      have HT := Lib.hid (ht.below hf.2.2)
      have bz := RS_bd (x := Z k) (m := P f) (by omega)
      have bp := prodF_bd h0 h8 Z k
      have HS := Lib.hid hf.step
      by_cases hz : RS (Z k) (P f) = 0
      · have e1 : (RS (Z k) (P f) != 0) = false := by simp [hz]
        have HP : Hid (prodF f Z k = prodF f Z (k + 1)) := Lib.hid (by rw [prodF, if_pos hz])
        clear hz
        go_wp2_with fail
        refine (reduce_c f (Z k) wr HT.out h0 h8).mono ?_
        rintro e w' ⟨rfl, rfl⟩
        go_wp2
        go_roundw
        case rel => exact ⟨k + 1, by go_num, by omega, vint HP.out, HS.out⟩
        case measure => simp [intOf]; omega
      · have e1 : (RS (Z k) (P f) != 0) = true := by simp [hz]
        have HP : Hid (RS (prodF f Z k * RS (Z k) (P f)) (P f) = prodF f Z (k + 1)) := Lib.hid (by rw [prodF, if_neg hz])
        clear hz
        go_wp2_with fail
        refine (reduce_c f (Z k) wr HT.out h0 h8).mono ?_
        rintro e w' ⟨rfl, rfl⟩
        go_wp2_with fail
        refine (mul_c f (prodF f Z k) (RS (Z k) (P f)) _ (ht.below HS.out.2.2) h0 h8 (by omega) bp.2 bz.1 bz.2).mono ?_
        rintro e w' ⟨rfl, rfl⟩
        go_wp2
        go_roundw
        case rel => exact ⟨k + 1, by go_num, by omega, vint HP.out, HS.out⟩
        case measure => simp [intOf]; omega
    · have hd : decide (k < n) = false := by simpa using h1
      obtain rfl : k = n := by omega
      have HT := Lib.hid (ht.below hf.2.2)
      have bp := prodF_bd h0 h8 Z k
      have HB := Lib.hid (hf.back h0 h8)
      clear hf h1 hk
      go_wp2_with fail
      refine (inverseL_c f (prodF f Z k) wr HT.out h0 h8 (by omega) bp.2).mono ?_
      rintro e w' ⟨rfl, rfl⟩
      have pb := PW_bd (m := P f) (x := prodF f Z k) (e := P f - 2) (by omega)
      go_wp2_with fail
      go_loopw [10, 11, 12] (fun u v _ wr => ∃ i b : Int, v = .int .i64 i ∧ u = .int .i64 b ∧ -1 ≤ i ∧ i < k ∧ 0 ≤ b ∧ b < P f ∧ Back f Z w wr k i b) (fun _ v _ _ => (intOf v + 1).toNat)
      case atStart => exact ⟨_, _, rfl, rfl, by omega, by omega, pb.1, pb.2, HB.out⟩
      case round =>
        clear HB HT pb
        obtain ⟨i, bb, rfl, rfl, i0, i1, b0, b1, hbk⟩ := hrel
        by_cases hi : 0 ≤ i
        · obtain ⟨j, rfl⟩ := Int.eq_ofNat_of_zero_le hi
          have hjk : j < k := by omega
          have c2 := World.rowIs.cell hbk.2.1 hjk
          simp only [Int.le_refl, if_true] at c2
          have c3 := World.rowIs.frozen hbk.2.1 j
          have c4 := World.rowIs.cell hbk.2.2.1 hjk
          have HT := Lib.hid (ht.below hbk.2.2.2)
          have bz := RS_bd (x := Z j) (m := P f) (by omega)
          have bpj := prodF_bd h0 h8 Z j
          by_cases hz : RS (Z j) (P f) = 0
          · have e1 : (RS (Z j) (P f) != 0) = false := by simp [hz]
            have HN := Lib.hid (hbk.no hz)
            clear hz hbk
            go_wp2
            go_roundw
            case rel => exact ⟨_, _, rfl, rfl, by omega, by omega, b0, b1, HN.out⟩
            case measure => simp [intOf]
          · have e1 : (RS (Z j) (P f) != 0) = true := by simp [hz]
            have HN := Lib.hid (hbk.yes h0 h8 hz)
            have bm := RS_bd (x := bb * RS (Z j) (P f)) (m := P f) (by omega)
            clear hz hbk
            go_wp2_with fail
            refine (mul_c f bb (prodF f Z j) wr HT.out h0 h8 b0 b1 (by omega) bpj.2).mono ?_
            rintro e w' ⟨rfl, rfl⟩
            go_wp2_with fail
            refine (mul_c f bb (RS (Z j) (P f)) _ (ht.below HN.out.2.2.2) h0 h8 b0 b1 bz.1 bz.2).mono ?_
            rintro e w' ⟨rfl, rfl⟩
            go_wp2
            go_roundw
            case rel => exact ⟨_, _, rfl, rfl, by omega, by omega, bm.1, bm.2, HN.out⟩
            case measure => simp [intOf]
        · have hd2 : decide (0 ≤ i) = false := by simpa using hi
          obtain rfl : i = -1 := by omega
          have HN := Lib.hid hbk
          clear hbk hi
          go_wp2
          go_ret
          exact ⟨rfl, World.rowIs.congr HN.out.2.1 (fun j _ => by simp [show ¬ (j : Int) ≤ -1 by omega]), HN.out.2.2.2⟩
theorem made0 : ∀ w : World, (Instr.makeSlice 24 (.int .i64 0) (.int .i64 0)).run Tryd.prog w = .ok (.slice (some ⟨w.heap.size, 0, none⟩) 0 0) (w.alloc (.cells (madeCells #[.int .i64 0] 0) 3)) :=
  run_make_row' (P := Tryd.prog) 24 3 (.int .i64 0) 8 Tryd.underlying24 info3 rfl .i64 .i64 0 (by omega) (by omega)
set_option maxRecDepth 100000 in
theorem inverses_none (f : Int) (a : Option Addr) (cap : Nat) (Z : Nat → Int) (w : World) (ht : Tab w) (h0 : 0 ≤ f) (h8 : f ≤ 8) : Calls Tryd.prog 25 #[.int .i64 f, .slice a 0 cap] w (InvP f Z w 0) := by
  have hmk := made0
  have hp := P_bd h0 h8
  have hbel : Below w.heap.size w ((w.alloc (.cells (madeCells #[.int .i64 0] 0) 3)).alloc (.cells (madeCells #[.int .i64 0] 0) 3)) := ((Below.refl _ _).alloc (Nat.le_refl _) _).alloc (by simp) _
  have HT := Lib.hid (ht.below hbel)
  go_enter Tryd.func25, Tryd.ntmps25
  go_wp2_with fail
  refine wp_loop_rounds 1 ?_
  rw [rounds_succ]
  go_wp2_with fail
  refine (inverseL_c f 1 _ HT.out h0 h8 (by omega) (by omega)).mono ?_
  rintro e w' ⟨rfl, rfl⟩
  go_wp2_with fail
  refine wp_loop_rounds 1 ?_
  rw [rounds_succ]
  go_wp2
  go_ret
  exact ⟨rfl, ((World.rowIs_made w (.int .i64 0) 0 3).alloc _).congr (fun j hj => by omega), hbel⟩
theorem inverses_c (f : Int) (a : Option Addr) (n cap : Nat) (Z : Nat → Int) (w : World) (ht : Tab w) (h0 : 0 ≤ f) (h8 : f ≤ 8) (hn : n ≤ 4096) (hs : Src w a n Z) : Calls Tryd.prog 25 #[.int .i64 f, .slice a n cap] w (InvP f Z w n) := by
  rcases hs with rfl | ⟨b, off, rfl, hlt, hc⟩
  · exact inverses_none f a cap Z w ht h0 h8
  · exact inverses_some f b off n cap Z w ht h0 h8 hn hlt hc
theorem iBatch_on (f : Int) (a : Option Addr) (n cap : Nat) (Z : Nat → Int) (w : World) (ht : Tab w) (h0 : 0 ≤ f) (h8 : f ≤ 8) (hn : n ≤ 4096) (hs : Src w a n Z) : Calls Tryd.prog 9 #[.int .i64 f, .slice a n cap] w (InvP f Z w n) := by
  have hd : decide ((4096 : Int) < n) = false := by simp; omega
  go_enter Tryd.func9, Tryd.ntmps9
  go_wp2_with fail
  refine (known_yes f w h0 h8).mono ?_
  rintro e w' ⟨rfl, rfl⟩
  go_wp2_with fail
  refine (inverses_c f a n cap Z w ht h0 h8 hn hs).mono ?_
  rintro e w' ⟨rfl, ho, hb⟩
  go_wp2
  go_ret
  exact ⟨rfl, ho, hb⟩
theorem iBatch_off (f : Int) (a : Option Addr) (n cap : Nat) (w : World) (hk : ¬ ((0 ≤ f ∧ f ≤ 8) ∧ n ≤ 4096)) (hn : n ≤ 1048576) : Calls Tryd.prog 9 #[.int .i64 f, .slice a n cap] w fun e w' => e = .returned (.slice none 0 0) ∧ w = w' := by
  by_cases h : 0 ≤ f ∧ f ≤ 8
  · have hd : decide ((4096 : Int) < n) = true := by simp; omega
    go_enter Tryd.func9, Tryd.ntmps9
    go_wp2_with fail
    refine (known_yes f w h.1 h.2).mono ?_
    rintro e w' ⟨rfl, rfl⟩
    go_wp2
    go_ret
    exact ⟨rfl, rfl⟩
  · go_enter Tryd.func9, Tryd.ntmps9
    go_wp2_with fail
    refine (known_no f w (by omega)).mono ?_
    rintro e w' ⟨rfl, rfl⟩
    go_wp2
    go_ret
    exact ⟨rfl, rfl⟩
/-- Marks: k, k + 1, .. -/
def MarkP (w : World) (g n : Nat) (k : Int) (e : Ending) (w' : World) : Prop := e = .returned (.int .i64 (k + n)) ∧ Own w' g n (fun j => k + j) ∧ w.grownBy w' (some g)
set_option maxHeartbeats 800000 in
theorem mark_c (g n cap : Nat) (F : Nat → Int) (k : Int) (w : World) (hn : n ≤ 1048576) (k0 : 0 ≤ k) (k1 : k ≤ 1000000000) (ho : Own w g n F) : Calls Tryd.prog 15 #[.slice (some ⟨g, 0, none⟩) n cap, .int .i64 k] w (MarkP w g n k) := by
  go_enter Tryd.func15, Tryd.ntmps15
  go_wp2_with fail
  go_loopw [1, 5] (fun u i wr => ∃ j : Nat, i = .int .i64 j ∧ u = .int .i64 (k + j) ∧ j ≤ n ∧ Own wr g n (fun x => if x < j then k + x else F x) ∧ w.grownBy wr (some g)) (fun _ i _ => n - (intOf i).toNat)
  case atStart => exact ⟨0, rfl, by simp, Nat.zero_le _, World.rowIs.congr ho (fun x _ => by simp), World.grownBy.refl _ _⟩
  case round =>
    obtain ⟨j, rfl, rfl, hj, ho2, hg⟩ := hrel
    by_cases h1 : j < n
    · have c2 := World.rowIs.cell ho2 h1
      have c3 := World.rowIs.frozen ho2 j
      have HS : Hid (Own (wr.setCell ⟨g, j, none⟩ (.int .i64 (k + j))) g n (fun x => if x < j + 1 then k + x else F x)) := Lib.hid (by
        refine (World.rowIs.set ho2 j (.int .i64 (k + j))).congr fun x _ => ?_
        by_cases hx : x = j
        · subst hx; simp
        · by_cases hx2 : x < j
          · simp [hx, hx2, show x < j + 1 by omega]
          · simp [hx, hx2, show ¬ x < j + 1 by omega])
      have HG := Lib.hid (grown_set hg j (.int .i64 (k + j)))
      clear ho2 hg
      go_wp2
      go_roundw
      case rel => exact ⟨j + 1, by go_num, vint (by omega), by omega, HS.out, HG.out⟩
      case measure => simp [intOf]; omega
    · have hd : decide (j < n) = false := by simpa using h1
      obtain rfl : j = n := by omega
      have HS := Lib.hid ho2
      have HG := Lib.hid hg
      clear ho2 hg
      go_wp2
      go_ret
      exact ⟨rfl, World.rowIs.congr HS.out (fun x hx => by simp [hx]), HG.out⟩
theorem mark_nil (k : Int) (w : World) : Calls Tryd.prog 15 #[.slice none 0 0, .int .i64 k] w fun e w' => e = .returned (.int .i64 k) ∧ w = w' := by
  go_enter Tryd.func15, Tryd.ntmps15
  go_wp2
  refine wp_loop_rounds 1 ?_
  rw [rounds_succ]
  go_wp2
  go_ret
  exact ⟨rfl, rfl⟩
set_option maxHeartbeats 800000 in
theorem held_c (g n cap : Nat) (k : Int) (w : World) (hn : n ≤ 1048576) (k0 : 0 ≤ k) (k1 : k ≤ 1000000000) (ho : Own w g n (fun j => k + j)) : Calls Tryd.prog 16 #[.slice (some ⟨g, 0, none⟩) n cap, .int .i64 k] w fun e w' => e = .returned (.int .i64 (k + n)) ∧ w = w' := by
  go_enter Tryd.func16, Tryd.ntmps16
  go_wp2_with fail
  go_loop [1, 5] (fun u i => ∃ j : Nat, i = .int .i64 j ∧ u = .int .i64 (k + j) ∧ j ≤ n) (fun _ i => n - (intOf i).toNat)
  case atStart => exact ⟨0, rfl, by simp, Nat.zero_le _⟩
  case round =>
    obtain ⟨j, rfl, rfl, hj⟩ := hrel
    by_cases h1 : j < n
    · have c2 := World.rowIs.cell ho h1
      have hd : ((k + j : Int) != k + j) = false := by simp
      go_wp2
      go_round
      case rel => exact ⟨j + 1, by go_num, vint (by omega), by omega⟩
      case measure => simp [intOf]; omega
    · have hd : decide (j < n) = false := by simpa using h1
      obtain rfl : j = n := by omega
      go_wp2
      go_ret
      exact ⟨rfl, rfl⟩
theorem held_nil (k : Int) (w : World) : Calls Tryd.prog 16 #[.slice none 0 0, .int .i64 k] w fun e w' => e = .returned (.int .i64 k) ∧ w = w' := by
  go_enter Tryd.func16, Tryd.ntmps16
  go_wp2
  refine wp_loop_rounds 1 ?_
  rw [rounds_succ]
  go_wp2
  go_ret
  exact ⟨rfl, rfl⟩
end Go.Proofs.YtajlhgiihneeiaaDoor
