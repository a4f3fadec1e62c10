/-
  Lists that grow: the specification's BatchInverse, a copy, a drawn list.
-/
import Derived.Test.YtajlhgiihneeiaaDoorWalkL
namespace Go.Proofs.YtajlhgiihneeiaaDoor
open Go.RowKit
def xsF (F : Nat → Int) (k : Nat) : List Value := (List.range k).map fun j => .int .i64 (F j)
theorem xsF_succ (F : Nat → Int) (k : Nat) : xsF F k ++ [.int .i64 (F k)] = xsF F (k + 1) := by simp [xsF, List.range_succ]
theorem xsF_congr {F G : Nat → Int} {k : Nat} (h : ∀ j, j < k → F j = G j) : xsF F k = xsF G k := by
  unfold xsF
  refine List.map_congr_left fun j hj => ?_
  rw [h j (List.mem_range.1 hj)]
theorem own_empty (w : World) (F : Nat → Int) : (w.alloc (.cells #[] 3)).ownsRow w.heap.size 3 1 (.slice (some ⟨w.heap.size, 0, none⟩) 0 0) 0 (xsF F 0) :=
  ⟨rfl, .inr ⟨w.heap.size, 0, #[], rfl, Nat.le_refl _, by unfold World.alloc; simp, by omega, by unfold maxLen; omega, rfl, rfl⟩⟩
theorem src_of_owns {w' : World} {base : Nat} {v : Value} {n : Nat} {F : Nat → Int} (h : w'.ownsRow base 3 1 v n (xsF F n)) : ∃ a cap, v = .slice a n cap ∧ Src w' a n F := by
  obtain ⟨hl, h⟩ := h
  rcases h with ⟨rfl, rfl⟩ | ⟨g, cap, cur, rfl, hg, hh, hc, hm, hs, ht⟩
  · exact ⟨none, 0, rfl, .inl rfl⟩
  · refine ⟨_, _, rfl, .inr ⟨g, 0, rfl, (Array.getElem?_eq_some_iff.1 hh).1, fun j hj => ?_⟩⟩
    have hx : (xsF F n)[j]? = some (.int .i64 (F j)) := by simp [xsF, hj]
    have hcur : cur.toList[j]? = some (.int .i64 (F j)) := by
      rw [← ht, List.getElem?_take_of_lt (by omega)] at hx; exact hx
    unfold World.cell?
    rw [hh]
    simp
    simpa using hcur
/-- A list of n integers. -/
def ListP (w : World) (n : Nat) (F : Nat → Int) (e : Ending) (w' : World) : Prop := ∃ a cap, e = .returned (.slice a n cap) ∧ Src w' a n F ∧ Below w.heap.size w w'
set_option maxHeartbeats 1600000 in
theorem cp_some (b off n cap : Nat) (F : Nat → Int) (w : World) (hn : n ≤ 1048576) (hlt : b < w.heap.size) (hc : ∀ j, j < n → w.cell? ⟨b, off + j, none⟩ = some (.int .i64 (F j))) :
    Calls Tryd.prog 10 #[.slice (some ⟨b, off, none⟩) n cap] w (ListP w n F) := by
  have HC := Lib.hid hc
  clear hc
  obtain ⟨i0, hi, hz0, hz1, hz2⟩ := info_parts info3
  have HI := Lib.hid hi
  have HZ0 := Lib.hid hz0
  have HZ1 := Lib.hid hz1
  have HZ2 := Lib.hid hz2
  clear hi hz0 hz1 hz2
  go_enter Tryd.func10, Tryd.ntmps10
  go_wp2_with fail
  go_loopw [3, 4] (fun v i wr => ∃ k : Nat, i = .int .i64 k ∧ k ≤ n ∧ wr.ownsRow w.heap.size 3 1 v k (xsF F k) ∧ Below w.heap.size w wr) (fun _ i _ => n - (intOf i).toNat)
  case atStart => exact ⟨0, rfl, Nat.zero_le _, own_empty w F, (Below.refl _ _).alloc (Nat.le_refl _) _⟩
  case round =>
    obtain ⟨k, rfl, hk, hown, hnx⟩ := hrel
    by_cases h1 : k < n
    · have hc2 : wr.cell? ⟨b, off + k, none⟩ = some (.int .i64 (F k)) := (hnx.cell (p := ⟨b, off + k, none⟩) hlt).trans (HC.out k h1)
      have hs := hnx.size
      go_wp2_with (at_builtin; refine wpList_append_own _ rfl _ _ 24 rfl w.heap.size 3 i0 (.int .i64 0) 1 8 Tryd.underlying24 HI.out HZ0.out HZ1.out HZ2.out rfl (by decide) _ _ _ rfl (hown.alloc _) ⟨wr.heap.size, 0, none⟩ 1 1 [.int .i64 (F k)] rfl rfl ?c1 ?c2 ?c3 ?c4 ?c5 ?_)
      case c1 => exact cell_one_new _ _ _
      case c2 => intro u hu; simp at hu; subst hu; rfl
      case c3 => unfold maxLen; omega
      case c4 => omega
      case c5 => simp; omega
      intro v' w1 hown' hgrow _
      have hbel : Below w.heap.size w w1 := (hnx.alloc hs _).grown hgrow (by simp; omega) (own_ge hown)
      rw [xsF_succ] at hown'
      clear hgrow hown hc2
      go_wp2
      go_roundw
      case rel => exact ⟨k + 1, by go_num, by omega, hown', hbel⟩
      case measure => simp [intOf]; omega
    · have hd : decide (k < n) = false := by simpa using h1
      obtain rfl : k = n := by omega
      obtain ⟨a', cap', hv, hsrc⟩ := src_of_owns hown
      have HV := Lib.hid hv
      clear hv
      go_wp2
      go_ret
      exact ⟨a', cap', by rw [← HV.out]; rfl, hsrc, hnx⟩
theorem cp_none (a : Option Addr) (cap : Nat) (F : Nat → Int) (w : World) : Calls Tryd.prog 10 #[.slice a 0 cap] w (ListP w 0 F) := by
  go_enter Tryd.func10, Tryd.ntmps10
  go_wp2
  refine wp_loop_rounds 1 ?_
  rw [rounds_succ]
  go_wp2
  go_ret
  exact ⟨_, _, rfl, .inl rfl, (Below.refl _ _).alloc (Nat.le_refl _) _⟩
theorem cp_c (a : Option Addr) (n cap : Nat) (F : Nat → Int) (w : World) (hn : n ≤ 1048576) (hs : Src w a n F) : Calls Tryd.prog 10 #[.slice a n cap] w (ListP w n F) := by
  rcases hs with rfl | ⟨b, off, rfl, hlt, hc⟩
  · exact cp_none a cap F w
  · exact cp_some b off n cap F w hn hlt hc
set_option maxRecDepth 100000 in
set_option maxHeartbeats 1600000 in
theorem sBatch_some (f : Int) (b off n cap : Nat) (Z : Nat → Int) (w : World) (h0 : 0 ≤ f) (h8 : f ≤ 8) (hn : n ≤ 4096) (hlt : b < w.heap.size) (hc : ∀ j, j < n → w.cell? ⟨b, off + j, none⟩ = some (.int .i64 (Z j))) :
    Calls Tryd.prog 12 #[.int .i64 f, .slice (some ⟨b, off, none⟩) n cap] w (ListP w n (fun j => invF f (Z j))) := by
  have HC := Lib.hid hc
  clear hc
  have hp := P_bd h0 h8
  have hz : (P f == 0) = false := by simp; omega
  have hd1 : decide ((4096 : Int) < n) = false := by simp; omega
  obtain ⟨i0, hi, hz0, hz1, hz2⟩ := info_parts info3
  have HI := Lib.hid hi
  have HZ0 := Lib.hid hz0
  have HZ1 := Lib.hid hz1
  have HZ2 := Lib.hid hz2
  clear hi hz0 hz1 hz2
  go_enter Tryd.func12, Tryd.ntmps12
  go_wp2_with fail
  refine (sModulus f _).mono ?_
  rintro e w' ⟨rfl, rfl⟩
  go_wp2_with fail
  go_loopw [5, 6, 7] (fun v i _ wr => ∃ k : Nat, i = .int .i64 k ∧ k ≤ n ∧ wr.ownsRow w.heap.size 3 1 v k (xsF (fun j => invF f (Z j)) k) ∧ Below w.heap.size w wr) (fun _ i _ _ => n - (intOf i).toNat)
  case atStart => exact ⟨0, rfl, Nat.zero_le _, own_empty w _, (Below.refl _ _).alloc (Nat.le_refl _) _⟩
  case round =>
    obtain ⟨k, rfl, hk, hown, hnx⟩ := hrel
    by_cases h1 : k < n
    · have hc2 : wr.cell? ⟨b, off + k, none⟩ = some (.int .i64 (Z k)) := (hnx.cell (p := ⟨b, off + k, none⟩) hlt).trans (HC.out k h1)
      have hs := hnx.size
      have hcase : (∃ x : Int, x < 0 ∧ Hid (mPower f (Z k) (-1) = x) ∧ Hid (0 = invF f (Z k))) ∨ (∃ x : Int, ¬ x < 0 ∧ Hid (mPower f (Z k) (-1) = x) ∧ Hid (x = invF f (Z k))) := by
        by_cases hzz : RS (Z k) (P f) = 0
        · exact .inl ⟨-1, by omega, Lib.hid (inv_neg h0 h8 hzz), Lib.hid (by rw [invF, if_pos hzz])⟩
        · have := inv_one h0 h8 hzz
          exact .inr ⟨_, by omega, Lib.hid rfl, Lib.hid (by rw [invF, if_neg hzz])⟩
      rcases hcase with ⟨x, hx, HX, HV⟩ | ⟨x, hx, HX, HV⟩
      · go_wp2_with fail
        refine (sInverse f (Z k) wr).mono ?_
        rintro e w' ⟨rfl, rfl⟩
        rw [HX.out]
        go_wp2_with (at_builtin; refine wpList_append_own _ rfl _ _ 24 rfl w.heap.size 3 i0 (.int .i64 0) 1 8 Tryd.underlying24 HI.out HZ0.out HZ1.out HZ2.out rfl (by decide) _ _ _ rfl (hown.alloc _) ⟨wr.heap.size, 0, none⟩ 1 1 [.int .i64 0] rfl rfl ?c1 ?c2 ?c3 ?c4 ?c5 ?_)
        case c1 => exact cell_one_new _ _ _
        case c2 => intro u hu; simp at hu; subst hu; rfl
        case c3 => unfold maxLen; omega
        case c4 => omega
        case c5 => simp; omega
        intro v' w1 hown' hgrow _
        have hbel : Below w.heap.size w w1 := (hnx.alloc hs _).grown hgrow (by simp; omega) (own_ge hown)
        rw [vint HV.out, xsF_succ (fun j => invF f (Z j))] at hown'
        clear hgrow hown hc2
        go_wp2
        go_roundw
        case rel => exact ⟨k + 1, by go_num, by omega, hown', hbel⟩
        case measure => simp [intOf]; omega
      · go_wp2_with fail
        refine (sInverse f (Z k) wr).mono ?_
        rintro e w' ⟨rfl, rfl⟩
        rw [HX.out]
        go_wp2_with (at_builtin; refine wpList_append_own _ rfl _ _ 24 rfl w.heap.size 3 i0 (.int .i64 0) 1 8 Tryd.underlying24 HI.out HZ0.out HZ1.out HZ2.out rfl (by decide) _ _ _ rfl (hown.alloc _) ⟨wr.heap.size, 0, none⟩ 1 1 [.int .i64 x] rfl rfl ?d1 ?d2 ?d3 ?d4 ?d5 ?_)
        case d1 => exact cell_one_new _ _ _
        case d2 => intro u hu; simp at hu; subst hu; rfl
        case d3 => unfold maxLen; omega
        case d4 => omega
        case d5 => simp; omega
        intro v' w1 hown' hgrow _
        have hbel : Below w.heap.size w w1 := (hnx.alloc hs _).grown hgrow (by simp; omega) (own_ge hown)
        rw [vint HV.out, xsF_succ (fun j => invF f (Z j))] at hown'
        clear hgrow hown hc2
        go_wp2
        go_roundw
        case rel => exact ⟨k + 1, by go_num, by omega, hown', hbel⟩
        case measure => simp [intOf]; omega
    · have hd : decide (k < n) = false := by simpa using h1
      obtain rfl : k = n := by omega
      obtain ⟨a', cap', hv, hsrc⟩ := src_of_owns hown
      have HV := Lib.hid hv
      clear hv
      go_wp2
      go_ret
      exact ⟨a', cap', by rw [← HV.out]; rfl, hsrc, hnx⟩
theorem sBatch_none (f : Int) (a : Option Addr) (cap : Nat) (F : Nat → Int) (w : World) (h0 : 0 ≤ f) (h8 : f ≤ 8) : Calls Tryd.prog 12 #[.int .i64 f, .slice a 0 cap] w (ListP w 0 F) := by
  have hp := P_bd h0 h8
  have hz : (P f == 0) = false := by simp; omega
  go_enter Tryd.func12, Tryd.ntmps12
  go_wp2_with fail
  refine (sModulus f _).mono ?_
  rintro e w' ⟨rfl, rfl⟩
  go_wp2_with fail
  refine wp_loop_rounds 1 ?_
  rw [rounds_succ]
  go_wp2
  go_ret
  exact ⟨_, _, rfl, .inl rfl, (Below.refl _ _).alloc (Nat.le_refl _) _⟩
theorem sBatch_on (f : Int) (a : Option Addr) (n cap : Nat) (Z : Nat → Int) (w : World) (h0 : 0 ≤ f) (h8 : f ≤ 8) (hn : n ≤ 4096) (hs : Src w a n Z) : Calls Tryd.prog 12 #[.int .i64 f, .slice a n cap] w (ListP w n (fun j => invF f (Z j))) := by
  rcases hs with rfl | ⟨b, off, rfl, hlt, hc⟩
  · exact sBatch_none f a cap _ w h0 h8
  · exact sBatch_some f b off n cap Z w h0 h8 hn hlt hc
theorem sBatch_off (f : Int) (a : Option Addr) (n cap : Nat) (w : World) (hk : ¬ ((0 ≤ f ∧ f ≤ 8) ∧ n ≤ 4096)) (hn : n ≤ 1048576) : Calls Tryd.prog 12 #[.int .i64 f, .slice a n cap] w fun e w' => e = .returned (.slice none 0 0) ∧ Below w.heap.size w w' := by
  by_cases h : 0 ≤ f ∧ f ≤ 8
  · have hp := P_bd h.1 h.2
    have hz : (P f == 0) = false := by simp; omega
    have hd : decide ((4096 : Int) < n) = true := by simp; omega
    go_enter Tryd.func12, Tryd.ntmps12
    go_wp2_with fail
    refine (sModulus f _).mono ?_
    rintro e w' ⟨rfl, rfl⟩
    go_wp2
    go_ret
    exact ⟨rfl, (Below.refl _ _).alloc (Nat.le_refl _) _⟩
  · have hz : (P f == 0) = true := by simp [P_off (f := f) (by omega)]
    go_enter Tryd.func12, Tryd.ntmps12
    go_wp2_with fail
    refine (sModulus f _).mono ?_
    rintro e w' ⟨rfl, rfl⟩
    go_wp2
    go_ret
    exact ⟨rfl, (Below.refl _ _).alloc (Nat.le_refl _) _⟩
end Go.Proofs.YtajlhgiihneeiaaDoor
