/-
  A list drawn for Permute.
-/
import Derived.Test.YtjfbhfloojkphaaWalkV
namespace Go.Proofs.Ytjfbhfloojkphaa
open Go.RowKit
set_option maxRecDepth 100000 in
set_option maxHeartbeats 3200000 in
theorem drawPermute_c (a : Option Addr) (len cap : Nat) (w : World) (hc : Code w a len) : Calls Try.prog 8 #[.slice a len cap] w (PDrawP w) := by
  obtain ⟨i0, hi, hz0, hz1, hz2⟩ := info_parts info3
  have HI := Lib.hid hi
  have HZ0 := Lib.hid hz0
  have HZ1 := Lib.hid hz1
  have HZ2 := Lib.hid hz2
  clear hi hz0 hz1 hz2
  go_enter Try.func8, Try.ntmps8
  go_wp2_with fail
  refine (new_c a len cap w hc).mono ?_
  rintro e w1 ⟨rfl, b1, c1⟩
  go_wp2_with fail
  refine (below_c w.heap.size 7 w1 c1 (by omega) (by omega)).mono ?_
  rintro e w2 ⟨x, ⟨x0, x1⟩, rfl, g2, c2⟩
  have b2 := below_of_grown b1 g2
  obtain ⟨k, rfl⟩ := Int.eq_ofNat_of_zero_le x0
  have tb : 0 ≤ wrap64 (2 ^ k) ∧ wrap64 (2 ^ k) ≤ 512 := by
    rw [shl_nat (by omega)]
    have := two_512 (k := k) (by omega)
    have := two_bd (k := (k : Int)) (by omega) (by omega)
    omega
  clear b1 c1 g2 hc
  go_wp2_with fail
  refine (once_c w.heap.size 9 w2 c2 (by omega) (by omega)).mono ?_
  rintro e w5 ⟨bb, rfl, g5, c5⟩
  have b5 := below_of_grown b2 g5
  clear b2 g5 c2
  generalize wrap64 (2 ^ k) = X at *
  cases bb
  · have hB : w.heap.size < w5.heap.size := c5.lt
    go_wp2_with fail
    go_loopw [5, 6] (fun v i wr => ∃ j : Nat, i = .int .i64 j ∧ (j : Int) ≤ X ∧ PDrawAt w wr w5.heap.size v j) (fun _ i _ => (X - intOf i).toNat)
    case atStart => exact ⟨0, rfl, by omega, ⟨fun _ => 0, own_empty w5 _⟩, c5.alloc _, b5.alloc b5.size _, by simp⟩
    case round =>
      obtain ⟨j, rfl, hj, ⟨F, hown⟩, hcur, hbel, hsz⟩ := hrel
      by_cases hlt : (j : Int) < X
      · go_wp2_with fail
        refine (any_c w.heap.size 6 wr hcur).mono ?_
        rintro e w9 ⟨x9, _, rfl, g9, c9⟩
        have hown9 := hown.kept g9 (pown_ne hB hown)
        have hb9 := below_of_grown hbel g9
        have hs9 : w5.heap.size ≤ w9.heap.size := Nat.le_trans hsz g9.size
        clear hown hcur hbel g9
        go_wp2_with (at_builtin; refine wpList_append_own _ rfl _ _ 24 rfl w5.heap.size 3 i0 (.int .i64 0) 1 8 Try.underlying24 HI.out HZ0.out HZ1.out HZ2.out rfl (by decide) _ _ _ rfl (hown9.alloc _) ⟨w9.heap.size, 0, none⟩ 1 1 [.int .i64 x9] rfl rfl ?c1 ?c2 ?c3 ?c4 ?c5 ?_)
        case c1 => exact cell_one_new _ _ _
        case c2 => intro u hu; simp at hu; subst hu; rfl
        case c3 => unfold maxLen; omega
        case c4 => omega
        case c5 => simp; omega
        intro v' w10 hown' hgrow _
        have hst := pdraw_step hB hb9 c9 hs9 hown9 hown' hgrow
        clear hgrow hown' hown9 c9 hb9
        go_wp2
        go_roundw
        case rel => exact ⟨j + 1, by go_num, by omega, hst⟩
        case measure => simp [intOf]; omega
      · have hd : decide ((j : Int) < X) = false := by simpa using hlt
        obtain ⟨a', cap', hv, hsrc⟩ := src_of_owns hown
        have HV := Lib.hid hv
        clear hv
        go_wp2
        go_ret
        exact ⟨a', j, cap', F, by rw [← HV.out]; rfl, by omega, hsrc, hbel⟩
  · go_wp2_with fail
    refine (pick_c (fun n => 0 ≤ n ∧ n ≤ 1024) w.heap.size w5.heap.size 5 5 _ (c5.alloc _) (by omega) (by omega) (ints_alloc _ c5.lt #[.int .i64 0, .int .i64 3, .int .i64 512, .int .i64 513, .int .i64 1024] 3 (fun j hj => by
      have h3 : j = 0 ∨ j = 1 ∨ j = 2 ∨ j = 3 ∨ j = 4 := by have : j < 5 := hj; omega
      rcases h3 with rfl | rfl | rfl | rfl | rfl <;> exact ⟨_, rfl, by omega⟩))).mono ?_
    rintro e w6 ⟨y, ⟨y0, y1⟩, rfl, g6, c6⟩
    have b6 := below_of_grown (b5.alloc b5.size _) g6
    have hB : w.heap.size < w6.heap.size := c6.lt
    clear g6 c5 b5 tb
    go_wp2_with fail
    go_loopw [5, 6] (fun v i wr => ∃ j : Nat, i = .int .i64 j ∧ (j : Int) ≤ y ∧ PDrawAt w wr w6.heap.size v j) (fun _ i _ => (y - intOf i).toNat)
    case atStart => exact ⟨0, rfl, by omega, ⟨fun _ => 0, own_empty w6 _⟩, c6.alloc _, b6.alloc b6.size _, by simp⟩
    case round =>
      obtain ⟨j, rfl, hj, ⟨F, hown⟩, hcur, hbel, hsz⟩ := hrel
      by_cases hlt : (j : Int) < y
      · go_wp2_with fail
        refine (any_c w.heap.size 6 wr hcur).mono ?_
        rintro e w9 ⟨x9, _, rfl, g9, c9⟩
        have hown9 := hown.kept g9 (pown_ne hB hown)
        have hb9 := below_of_grown hbel g9
        have hs9 : w6.heap.size ≤ w9.heap.size := Nat.le_trans hsz g9.size
        clear hown hcur hbel g9
        go_wp2_with (at_builtin; refine wpList_append_own _ rfl _ _ 24 rfl w6.heap.size 3 i0 (.int .i64 0) 1 8 Try.underlying24 HI.out HZ0.out HZ1.out HZ2.out rfl (by decide) _ _ _ rfl (hown9.alloc _) ⟨w9.heap.size, 0, none⟩ 1 1 [.int .i64 x9] rfl rfl ?d1 ?d2 ?d3 ?d4 ?d5 ?_)
        case d1 => exact cell_one_new _ _ _
        case d2 => intro u hu; simp at hu; subst hu; rfl
        case d3 => unfold maxLen; omega
        case d4 => omega
        case d5 => simp; omega
        intro v' w10 hown' hgrow _
        have hst := pdraw_step hB hb9 c9 hs9 hown9 hown' hgrow
        clear hgrow hown' hown9 c9 hb9
        go_wp2
        go_roundw
        case rel => exact ⟨j + 1, by go_num, by omega, hst⟩
        case measure => simp [intOf]; omega
      · have hd : decide ((j : Int) < y) = false := by simpa using hlt
        obtain ⟨a', cap', hv, hsrc⟩ := src_of_owns hown
        have HV := Lib.hid hv
        clear hv
        go_wp2
        go_ret
        exact ⟨a', j, cap', F, by rw [← HV.out]; rfl, by omega, hsrc, hbel⟩
end Go.Proofs.Ytjfbhfloojkphaa
