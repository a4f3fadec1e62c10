/-
  Permute, the program's and the specification's; a drawn list.
-/
import Derived.Test.YtjfbhfloojkphaaWalkQ
import Derived.Test.YtjfbhfloojkphaaWalkM
namespace Go.Proofs.Ytjfbhfloojkphaa
open Go.RowKit
theorem perm_set {wr : World} {g n k i : Nat} {F : Nat → Int} (hk : k ≤ 9) (hn : n = 2 ^ k) (hi : i < n) (h : Own wr g n (fun j => if rv j k < i then F (rv j k) else 0)) :
    Own (wr.setCell ⟨g, rv i k, none⟩ (.int .i64 (F i))) g n (fun j => if rv j k < i + 1 then F (rv j k) else 0) := by
  subst hn
  refine (World.rowIs.set h (rv i k) (.int .i64 (F i))).congr fun j hj => ?_
  have e1 := rv_twice hk hi
  have e2 := rv_twice hk hj
  by_cases h1 : j = rv i k
  · subst h1; simp [e1]
  · have h2 : rv j k ≠ i := fun e => h1 (by rw [← e, e2])
    by_cases h3 : rv j k < i
    · simp [h1, h3, show rv j k < i + 1 by omega]
    · simp [h1, h3, show ¬ rv j k < i + 1 by omega]
theorem perm_log {n k : Nat} (hk : k ≤ 9) (hn : n = 2 ^ k) : mLog n = k := by
  rw [hn]
  have := log_two hk
  rw [two_cast] at this
  exact_mod_cast this
set_option maxRecDepth 100000 in
set_option maxHeartbeats 800000 in
theorem iPermute_on (b off n cap k : Nat) (F : Nat → Int) (w : World) (hk : k ≤ 9) (hn : n = 2 ^ k) (hlt : b < w.heap.size) (hc : ∀ j, j < n → w.cell? ⟨b, off + j, none⟩ = some (.int .i64 (F j))) :
    Calls Try.prog 11 #[.slice (some ⟨b, off, none⟩) n cap] w (CopyP w n (fun j => F (rv j k))) := by
  have HC := Lib.hid hc
  clear hc
  have HN := Lib.hid hn
  have n9 : n ≤ 512 := by
    have : 2 ^ k ≤ 2 ^ 9 := Nat.pow_le_pow_right (by omega) hk
    omega
  have HL := Lib.hid (perm_log hk hn)
  clear hn
  have hmk := run_make_row' (P := Try.prog) 24 3 (.int .i64 0) 8 Try.underlying24 info3 rfl .i64 .i64 n (by omega) (by omega)
  go_enter Try.func11, Try.ntmps11
  go_wp2_with fail
  refine (iLogOf n w).mono ?_
  rintro e w' ⟨rfl, rfl⟩
  rw [HL.out]
  go_wp2_with fail
  clear hmk
  go_loopw [5, 6, 17] (fun _ _ i wr => ∃ j : Nat, i = .int .i64 j ∧ j ≤ n ∧ Own wr w.heap.size n (fun x => if rv x k < j then F (rv x k) else 0) ∧ Below w.heap.size w wr) (fun _ _ i _ => n - (intOf i).toNat)
  case atStart =>
    refine ⟨0, rfl, Nat.zero_le _, ?_, (Below.refl _ _).alloc (Nat.le_refl _) _⟩
    exact (World.rowIs_made w (.int .i64 0) n 3).congr fun j _ => by simp
  case round =>
    obtain ⟨j, rfl, hj, ho, hb⟩ := hrel
    by_cases h1 : j < n
    · have c1 : wr.cell? ⟨b, off + j, none⟩ = some (.int .i64 (F j)) := (hb.cell (p := ⟨b, off + j, none⟩) hlt).trans (HC.out j h1)
      have hr : rv j k < n := by rw [HN.out]; exact rv_lt j k
      have c2 := World.rowIs.cell ho hr
      have c3 := World.rowIs.frozen ho (rv j k)
      have HS := Lib.hid (perm_set hk HN.out h1 ho)
      have HR := Lib.hid (mRev_on hk (show j < 2 ^ k by rw [← HN.out]; exact h1))
      go_wp2_with fail
      refine (iReverse j k wr).mono ?_
      rintro e w' ⟨rfl, rfl⟩
      rw [HR.out]
      go_wp2
      go_roundw
      case rel => exact ⟨j + 1, by go_num, by omega, HS.out, hb.setCell (Nat.le_refl _) _⟩
      case measure => simp [intOf]; omega
    · have hd : decide (j < n) = false := by simpa using h1
      obtain rfl : j = n := by omega
      go_wp2
      go_ret
      exact ⟨rfl, World.rowIs.congr ho (fun x _ => by simp [show rv x k < j by rw [HN.out]; exact rv_lt x k]), hb⟩
theorem iPermute_off (a : Option Addr) (n cap : Nat) (w : World) (h : mLog n = -1) (hn : n ≤ 1048576) : Calls Try.prog 11 #[.slice a n cap] w fun e w' => e = .returned (.slice none 0 0) ∧ w = w' := by
  have HL := Lib.hid h
  clear h
  go_enter Try.func11, Try.ntmps11
  go_wp2_with fail
  refine (iLogOf n w).mono ?_
  rintro e w' ⟨rfl, rfl⟩
  rw [HL.out]
  go_wp2
  go_ret
  exact ⟨rfl, rfl⟩
set_option maxRecDepth 100000 in
set_option maxHeartbeats 1600000 in
theorem sPermute_on (b off n cap k : Nat) (F : Nat → Int) (w : World) (hk : k ≤ 9) (hn : n = 2 ^ k) (hlt : b < w.heap.size) (hc : ∀ j, j < n → w.cell? ⟨b, off + j, none⟩ = some (.int .i64 (F j))) :
    Calls Try.prog 16 #[.slice (some ⟨b, off, none⟩) n cap] w (ListP w n (fun j => F (rv j k))) := by
  have HC := Lib.hid hc
  clear hc
  have HN := Lib.hid hn
  have n9 : n ≤ 512 := by
    have : 2 ^ k ≤ 2 ^ 9 := Nat.pow_le_pow_right (by omega) hk
    omega
  have HL := Lib.hid (perm_log hk hn)
  clear hn
  obtain ⟨i0, hi, hz0, hz1, hz2⟩ := info_parts info3
  have HI := Lib.hid hi
  have HZ0 := Lib.hid hz0
  have HZ1 := Lib.hid hz1
  have HZ2 := Lib.hid hz2
  clear hi hz0 hz1 hz2
  go_enter Try.func16, Try.ntmps16
  go_wp2_with fail
  refine (sLogOf n _).mono ?_
  rintro e w' ⟨rfl, rfl⟩
  rw [HL.out]
  go_wp2_with fail
  go_loopw [3, 5] (fun v i wr => ∃ j : Nat, i = .int .i64 j ∧ j ≤ n ∧ wr.ownsRow w.heap.size 3 1 v j (xsF (fun x => F (rv x k)) j) ∧ Below w.heap.size w wr) (fun _ i _ => n - (intOf i).toNat)
  case atStart => exact ⟨0, rfl, Nat.zero_le _, own_empty w _, (Below.refl _ _).alloc (Nat.le_refl _) _⟩
  case round =>
    obtain ⟨j, rfl, hj, hown, hnx⟩ := hrel
    by_cases h1 : j < n
    · have hr : rv j k < n := by rw [HN.out]; exact rv_lt j k
      have hc2 : wr.cell? ⟨b, off + rv j k, none⟩ = some (.int .i64 (F (rv j k))) := (hnx.cell (p := ⟨b, off + rv j k, none⟩) hlt).trans (HC.out _ hr)
      have hs := hnx.size
      have HR := Lib.hid (mRev_on hk (show j < 2 ^ k by rw [← HN.out]; exact h1))
      go_wp2_with fail
      refine (sReverse j k wr).mono ?_
      rintro e w' ⟨rfl, rfl⟩
      rw [HR.out]
      go_wp2_with (at_builtin; refine wpList_append_own _ rfl _ _ 24 rfl w.heap.size 3 i0 (.int .i64 0) 1 8 Try.underlying24 HI.out HZ0.out HZ1.out HZ2.out rfl (by decide) _ _ _ rfl (hown.alloc _) ⟨wr.heap.size, 0, none⟩ 1 1 [.int .i64 (F (rv j k))] rfl rfl ?c1 ?c2 ?c3 ?c4 ?c5 ?_)
      case c1 => exact cell_one_new _ _ _
      case c2 => intro u hu; simp at hu; subst hu; rfl
      case c3 => unfold maxLen; omega
      case c4 => omega
      case c5 => simp; omega
      intro v' w1 hown' hgrow _
      have hbel : Below w.heap.size w w1 := (hnx.alloc hs _).grown hgrow (by simp; omega) (own_ge hown)
      rw [xsF_succ (fun x => F (rv x k))] at hown'
      clear hgrow hown hc2
      go_wp2
      go_roundw
      case rel => exact ⟨j + 1, by go_num, by omega, hown', hbel⟩
      case measure => simp [intOf]; omega
    · have hd : decide (j < n) = false := by simpa using h1
      obtain rfl : j = n := by omega
      obtain ⟨a', cap', hv, hsrc⟩ := src_of_owns hown
      have HV := Lib.hid hv
      clear hv
      go_wp2
      go_ret
      exact ⟨a', cap', by rw [← HV.out]; rfl, hsrc, hnx⟩
theorem sPermute_off (a : Option Addr) (n cap : Nat) (w : World) (h : mLog n = -1) (hn : n ≤ 1048576) : Calls Try.prog 16 #[.slice a n cap] w fun e w' => e = .returned (.slice none 0 0) ∧ Below w.heap.size w w' := by
  have HL := Lib.hid h
  clear h
  go_enter Try.func16, Try.ntmps16
  go_wp2_with fail
  refine (sLogOf n _).mono ?_
  rintro e w' ⟨rfl, rfl⟩
  rw [HL.out]
  go_wp2
  go_ret
  exact ⟨rfl, (Below.refl _ _).alloc (Nat.le_refl _) _⟩
theorem src_on {w : World} {a : Option Addr} {n : Nat} {F : Nat → Int} (h : Src w a n F) (hn : n ≠ 0) : ∃ b off, a = some ⟨b, off, none⟩ ∧ b < w.heap.size ∧ ∀ j, j < n → w.cell? ⟨b, off + j, none⟩ = some (.int .i64 (F j)) := by
  rcases h with h | h
  · exact absurd h hn
  · exact h
theorem iPermute (a : Option Addr) (n cap k : Nat) (F : Nat → Int) (w : World) (hk : k ≤ 9) (hn : n = 2 ^ k) (hs : Src w a n F) : Calls Try.prog 11 #[.slice a n cap] w (CopyP w n (fun j => F (rv j k))) := by
  have h0 : n ≠ 0 := by have : 0 < 2 ^ k := Nat.pow_pos (by omega); omega
  obtain ⟨b, off, rfl, hlt, hc⟩ := src_on hs h0
  exact iPermute_on b off n cap k F w hk hn hlt hc
theorem sPermute (a : Option Addr) (n cap k : Nat) (F : Nat → Int) (w : World) (hk : k ≤ 9) (hn : n = 2 ^ k) (hs : Src w a n F) : Calls Try.prog 16 #[.slice a n cap] w (ListP w n (fun j => F (rv j k))) := by
  have h0 : n ≠ 0 := by have : 0 < 2 ^ k := Nat.pow_pos (by omega); omega
  obtain ⟨b, off, rfl, hlt, hc⟩ := src_on hs h0
  exact sPermute_on b off n cap k F w hk hn hlt hc
set_option maxHeartbeats 800000 in
theorem same_some (b off b2 off2 n cap cap2 : Nat) (F : Nat → Int) (w : World) (hn : n ≤ 1048576) (hlt : b < w.heap.size) (hlt2 : b2 < w.heap.size) (hc : ∀ j, j < n → w.cell? ⟨b, off + j, none⟩ = some (.int .i64 (F j))) (hc2 : ∀ j, j < n → w.cell? ⟨b2, off2 + j, none⟩ = some (.int .i64 (F j))) :
    Calls Try.prog 10 #[.slice (some ⟨b, off, none⟩) n cap, .slice (some ⟨b2, off2, none⟩) n cap2] w (TrueP w) := by
  have HC := Lib.hid hc
  have HC2 := Lib.hid hc2
  clear hc hc2
  go_enter Try.func10, Try.ntmps10
  go_wp2_with fail
  go_loopw [5] (fun i wr => ∃ k : Nat, i = .int .i64 k ∧ k ≤ n ∧ Below w.heap.size w wr) (fun i _ => n - (intOf i).toNat)
  case atStart => exact ⟨0, rfl, Nat.zero_le _, Below.refl _ _⟩
  case round =>
    obtain ⟨k, rfl, hk, hb⟩ := hrel
    by_cases h1 : k < n
    · have c1 : wr.cell? ⟨b, off + k, none⟩ = some (.int .i64 (F k)) := (hb.cell (p := ⟨b, off + k, none⟩) hlt).trans (HC.out k h1)
      have c2 : wr.cell? ⟨b2, off2 + k, none⟩ = some (.int .i64 (F k)) := (hb.cell (p := ⟨b2, off2 + k, none⟩) hlt2).trans (HC2.out k h1)
      go_wp2
      go_quiet (fail)
      go_wp2
      go_roundw
      case rel => exact ⟨k + 1, by go_num, by omega, below_drewN hb _⟩
      case measure => simp [intOf]; omega
    · have hd : decide (k < n) = false := by simpa using h1
      go_wp2
      go_ret
      exact ⟨rfl, hb⟩
theorem same_none (a a2 : Option Addr) (cap cap2 : Nat) (w : World) : Calls Try.prog 10 #[.slice a 0 cap, .slice a2 0 cap2] w (TrueP w) := by
  go_enter Try.func10, Try.ntmps10
  go_wp2
  refine wp_loop_rounds 1 ?_
  rw [rounds_succ]
  go_wp2
  go_ret
  exact ⟨rfl, Below.refl _ _⟩
theorem same_c (a a2 : Option Addr) (n cap cap2 : Nat) (F : Nat → Int) (w : World) (hn : n ≤ 1048576) (hs : Src w a n F) (hs2 : Src w a2 n F) : Calls Try.prog 10 #[.slice a n cap, .slice a2 n cap2] w (TrueP w) := by
  rcases hs with rfl | ⟨b, off, rfl, hlt, hc⟩
  · exact same_none a a2 cap cap2 w
  · rcases hs2 with rfl | ⟨b2, off2, rfl, hlt2, hc2⟩
    · exact same_none _ a2 cap cap2 w
    · exact same_some b off b2 off2 n cap cap2 F w hn hlt hlt2 hc hc2
theorem Src.congr {w : World} {a : Option Addr} {n : Nat} {F G : Nat → Int} (h : Src w a n F) (e : ∀ j, j < n → F j = G j) : Src w a n G := by
  refine h.imp id ?_
  rintro ⟨b, off, e1, hlt, hc⟩
  exact ⟨b, off, e1, hlt, fun j hj => by rw [hc j hj, e j hj]⟩
/-- The state of the loop that draws the list. -/
def PDrawAt (w wr : World) (B : Nat) (v : Value) (k : Nat) : Prop := (∃ F, wr.ownsRow B 3 1 v k (xsF F k)) ∧ Cur w.heap.size wr ∧ Below w.heap.size w wr ∧ B ≤ wr.heap.size
theorem pxsF_more (F : Nat → Int) (k : Nat) (x : Int) : xsF F k ++ [.int .i64 x] = xsF (fun j => if j < k then F j else x) (k + 1) := by
  rw [← xsF_succ, xsF_congr (F := F) (G := fun j => if j < k then F j else x) (fun j hj => by simp [hj])]
  simp
theorem pdraw_step {w w1 w2 : World} {B : Nat} {v v' : Value} {k : Nat} {x : Int} {F : Nat → Int} {o : Obj} (hB : w.heap.size < B) (h1b : Below w.heap.size w w1) (c1 : Cur w.heap.size w1) (hB1 : B ≤ w1.heap.size) (hown1 : w1.ownsRow B 3 1 v k (xsF F k))
    (hown' : w2.ownsRow B 3 1 v' (k + 1) (xsF F k ++ [.int .i64 x])) (hgrow : (w1.alloc o).grownBy w2 v.ownBlock) : PDrawAt w w2 B v' (k + 1) := by
  have hge := own_ge hown1
  refine ⟨⟨_, by rw [pxsF_more] at hown'; exact hown'⟩, (c1.alloc o).other hgrow (fun r hr => by have := hge r hr; omega), ?_, ?_⟩
  · exact (h1b.alloc h1b.size o).grown hgrow (by have := h1b.size; simp; omega) (fun r hr => by have := hge r hr; omega)
  · have := hgrow.size; simp at this; omega
theorem pown_ne {wr : World} {B g : Nat} {v : Value} {k : Nat} {xs : List Value} (hB : g < B) (h : wr.ownsRow B 3 1 v k xs) : v.ownBlock = none ∨ v.ownBlock ≠ some g := by
  refine .inr fun e => ?_
  have := own_ge h g e
  omega
def PDrawP (w : World) (e : Ending) (w' : World) : Prop := ∃ (a : Option Addr) (n cap : Nat) (F : Nat → Int), e = .returned (.slice a n cap) ∧ n ≤ 1024 ∧ Src w' a n F ∧ Below w.heap.size w w'
end Go.Proofs.Ytjfbhfloojkphaa
