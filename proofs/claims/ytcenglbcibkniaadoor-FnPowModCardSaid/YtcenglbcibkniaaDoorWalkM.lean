/-
  Lists that grow: the specification's BatchInverse, a copy, a drawn list.
-/
import Derived.Test.YtcenglbcibkniaaDoorWalkL
namespace Go.Proofs.YtcenglbcibkniaaDoor
open Go.RowKit
def xsF (F : Nat → Int) (k : Nat) : List Value := (List.range k).map fun j => .int .i64 (F j)
theorem xsF_succ (F : Nat → Int) (k : Nat) : xsF F k ++ [.int .i64 (F k)] = xsF F (k + 1) := by simp [xsF, List.range_succ]
theorem xsF_congr {F G : Nat → Int} {k : Nat} (h : ∀ j, j < k → F j = G j) : xsF F k = xsF G k := by
  unfold xsF
  refine List.map_congr_left fun j hj => ?_
  rw [h j (List.mem_range.1 hj)]
theorem own_empty (w : World) (F : Nat → Int) : (w.alloc (.cells #[] 3)).ownsRow w.heap.size 3 1 (.slice (some ⟨w.heap.size, 0, none⟩) 0 0) 0 (xsF F 0) :=
  ⟨rfl, .inr ⟨w.heap.size, 0, #[], rfl, Nat.le_refl _, by unfold World.alloc; simp, by omega, by unfold maxLen; omega, rfl, rfl⟩⟩
theorem src_of_owns {w' : World} {base : Nat} {v : Value} {n : Nat} {F : Nat → Int} (h : w'.ownsRow base 3 1 v n (xsF F n)) : ∃ a cap, v = .slice a n cap ∧ Src w' a n F := by
  obtain ⟨hl, h⟩ := h
  rcases h with ⟨rfl, rfl⟩ | ⟨g, cap, cur, rfl, hg, hh, hc, hm, hs, ht⟩
  · exact ⟨none, 0, rfl, .inl rfl⟩
  · refine ⟨_, _, rfl, .inr ⟨g, 0, rfl, (Array.getElem?_eq_some_iff.1 hh).1, fun j hj => ?_⟩⟩
    have hx : (xsF F n)[j]? = some (.int .i64 (F j)) := by simp [xsF, hj]
    have hcur : cur.toList[j]? = some (.int .i64 (F j)) := by
      rw [← ht, List.getElem?_take_of_lt (by omega)] at hx; exact hx
    unfold World.cell?
    rw [hh]
    simp
    simpa using hcur
/-- A list of n integers. -/
def ListP (w : World) (n : Nat) (F : Nat → Int) (e : Ending) (w' : World) : Prop := ∃ a cap, e = .returned (.slice a n cap) ∧ Src w' a n F ∧ Below w.heap.size w w'
set_option maxHeartbeats 1600000 in
theorem cp_some (b off n cap : Nat) (F : Nat → Int) (w : World) (hn : n ≤ 1048576) (hlt : b < w.heap.size) (hc : ∀ j, j < n → w.cell? ⟨b, off + j, none⟩ = some (.int .i64 (F j))) :
    Calls Tryd.prog 11 #[.slice (some ⟨b, off, none⟩) n cap] w (ListP w n F) := by
  have HC := Lib.hid hc
  clear hc
  obtain ⟨i0, hi, hz0, hz1, hz2⟩ := info_parts info3
  have HI := Lib.hid hi
  have HZ0 := Lib.hid hz0
  have HZ1 := Lib.hid hz1
  have HZ2 := Lib.hid hz2
  clear hi hz0 hz1 hz2
  go_enter Tryd.func11, Tryd.ntmps11
  go_wp2_with fail
  go_loopw [3, 4] (fun v i wr => ∃ k : Nat, i = .int .i64 k ∧ k ≤ n ∧ wr.ownsRow w.heap.size 3 1 v k (xsF F k) ∧ Below w.heap.size w wr) (fun _ i _ => n - (intOf i).toNat)
  case atStart => exact ⟨0, rfl, Nat.zero_le _, own_empty w F, (Below.refl _ _).alloc (Nat.le_refl _) _⟩
  case round =>
    obtain ⟨k, rfl, hk, hown, hnx⟩ := hrel
    by_cases h1 : k < n
    · have hc2 : wr.cell? ⟨b, off + k, none⟩ = some (.int .i64 (F k)) := (hnx.cell (p := ⟨b, off + k, none⟩) hlt).trans (HC.out k h1)
      have hs := hnx.size
      go_wp2_with (at_builtin; refine wpList_append_own _ rfl _ _ 24 rfl w.heap.size 3 i0 (.int .i64 0) 1 8 Tryd.underlying24 HI.out HZ0.out HZ1.out HZ2.out rfl (by decide) _ _ _ rfl (hown.alloc _) ⟨wr.heap.size, 0, none⟩ 1 1 [.int .i64 (F k)] rfl rfl ?c1 ?c2 ?c3 ?c4 ?c5 ?_)
      case c1 => exact cell_one_new _ _ _
      case c2 => intro u hu; simp at hu; subst hu; rfl
      case c3 => unfold maxLen; omega
      case c4 => omega
      case c5 => simp; omega
      intro v' w1 hown' hgrow _
      have hbel : Below w.heap.size w w1 := (hnx.alloc hs _).grown hgrow (by simp; omega) (own_ge hown)
      rw [xsF_succ] at hown'
      clear hgrow hown hc2
      go_wp2
      go_roundw
      case rel => exact ⟨k + 1, by go_num, by omega, hown', hbel⟩
      case measure => simp [intOf]; omega
    · have hd : decide (k < n) = false := by simpa using h1
      obtain rfl : k = n := by omega
      obtain ⟨a', cap', hv, hsrc⟩ := src_of_owns hown
      have HV := Lib.hid hv
      clear hv
      go_wp2
      go_ret
      exact ⟨a', cap', by rw [← HV.out]; rfl, hsrc, hnx⟩
theorem cp_none (a : Option Addr) (cap : Nat) (F : Nat → Int) (w : World) : Calls Tryd.prog 11 #[.slice a 0 cap] w (ListP w 0 F) := by
  go_enter Tryd.func11, Tryd.ntmps11
  go_wp2
  refine wp_loop_rounds 1 ?_
  rw [rounds_succ]
  go_wp2
  go_ret
  exact ⟨_, _, rfl, .inl rfl, (Below.refl _ _).alloc (Nat.le_refl _) _⟩
theorem cp_c (a : Option Addr) (n cap : Nat) (F : Nat → Int) (w : World) (hn : n ≤ 1048576) (hs : Src w a n F) : Calls Tryd.prog 11 #[.slice a n cap] w (ListP w n F) := by
  rcases hs with rfl | ⟨b, off, rfl, hlt, hc⟩
  · exact cp_none a cap F w
  · exact cp_some b off n cap F w hn hlt hc
end Go.Proofs.YtcenglbcibkniaaDoor
