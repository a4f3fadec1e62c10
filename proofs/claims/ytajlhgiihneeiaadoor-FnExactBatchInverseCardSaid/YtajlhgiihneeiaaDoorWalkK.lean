/-
  Lists of integers: copies, comparisons, sums of products.
-/
import Derived.Test.YtajlhgiihneeiaaDoorWalkI
import Derived.Deep.OwnRows
import Derived.Test.YtajlhgiihneeiaaDoorWalkC
namespace Go.Proofs.YtajlhgiihneeiaaDoor
open Go.RowKit
/-- A slice of n integers that can be read: F j at j. -/
def Src (w : World) (a : Option Addr) (n : Nat) (F : Nat → Int) : Prop :=
  n = 0 ∨ ∃ b off, a = some ⟨b, off, none⟩ ∧ b < w.heap.size ∧ ∀ j, j < n → w.cell? ⟨b, off + j, none⟩ = some (.int .i64 (F j))
theorem Src.keep {w w' : World} {a : Option Addr} {n : Nat} {F : Nat → Int} (h : Src w a n F) (hb : Below w.heap.size w w') : Src w' a n F := by
  refine h.imp id ?_
  rintro ⟨b, off, e, hlt, hc⟩
  exact ⟨b, off, e, Nat.lt_of_lt_of_le hlt hb.size, fun j hj => (hb.cell (p := ⟨b, off + j, none⟩) hlt).trans (hc j hj)⟩
/-- A block of the call's own: n integers, F j at j. -/
def Own (w : World) (g n : Nat) (F : Nat → Int) : Prop := w.rowIs g 3 n (fun j => .int .i64 (F j))
theorem Own.src {w : World} {g n : Nat} {F : Nat → Int} (h : Own w g n F) : Src w (some ⟨g, 0, none⟩) n F :=
  .inr ⟨g, 0, rfl, h.lt, fun j hj => by rw [Nat.zero_add]; exact h.cell hj⟩
theorem Own.keep {w w' : World} {g n : Nat} {F : Nat → Int} (h : Own w g n F) (hb : Below w.heap.size w w') : Own w' g n F := World.rowIs.of_block h (hb.block g h.lt)
theorem below_drewN {B : Nat} {a w : World} (h : Below B a w) (n : Nat) : Below B a (w.drewN n) := ⟨h.os, h.tape, h.output, h.size, h.block⟩
theorem quiet_left {P : Program} {f : FuncId} {args : Array Value} {w : World} {n : Nat} {v : Value}
    (h : Calls P f args (w.drewN n) fun e w' => e = .returned v ∧ w.drewN n = w') : Calls P f args (w.drewN n) fun e w'' => e = .returned v ∧ ∃ m, w'' = w.drewN m :=
  h.mono fun _ _ ⟨he, hm⟩ => ⟨he, n, hm.symm⟩
def CopyP (w : World) (n : Nat) (F : Nat → Int) (e : Ending) (w' : World) : Prop := e = .returned (.slice (some ⟨w.heap.size, 0, none⟩) n n) ∧ Own w' w.heap.size n F ∧ Below w.heap.size w w'
theorem copy_set {w wr : World} {n k : Nat} {F : Nat → Int} (h : Own wr w.heap.size n (fun j => if j < k then F j else 0)) : Own (wr.setCell ⟨w.heap.size, k, none⟩ (.int .i64 (F k))) w.heap.size n (fun j => if j < k + 1 then F j else 0) := by
  refine (World.rowIs.set h k (.int .i64 (F k))).congr fun j _ => ?_
  by_cases h1 : j = k
  · subst h1; simp
  · by_cases h2 : j < k
    · simp [h1, h2, show j < k + 1 by omega]
    · simp [h1, h2, show ¬ j < k + 1 by omega]
set_option maxHeartbeats 800000 in
theorem toInt_some (b off n cap : Nat) (F : Nat → Int) (w : World) (hn : n ≤ 1048576) (hlt : b < w.heap.size) (hc : ∀ j, j < n → w.cell? ⟨b, off + j, none⟩ = some (.int .i64 (F j))) :
    Calls Tryd.prog 13 #[.slice (some ⟨b, off, none⟩) n cap] w (CopyP w n F) := by
  have HC := Lib.hid hc
  clear hc
  have hmk := run_make_row' (P := Tryd.prog) 24 3 (.int .i64 0) 8 Tryd.underlying24 info3 rfl .i64 .i64 n (by omega) (by omega)
  go_enter Tryd.func13, Tryd.ntmps13
  go_wp2_with fail
  clear hmk
  go_loopw [4] (fun i wr => ∃ k : Nat, i = .int .i64 k ∧ k ≤ n ∧ Own wr w.heap.size n (fun j => if j < k then F j else 0) ∧ Below w.heap.size w wr) (fun i _ => n - (intOf i).toNat)
  case atStart =>
    refine ⟨0, rfl, Nat.zero_le _, ?_, (Below.refl _ _).alloc (Nat.le_refl _) _⟩
    exact (World.rowIs_made w (.int .i64 0) n 3).congr fun j _ => by simp
  case round =>
    obtain ⟨k, rfl, hk, ho, hb⟩ := hrel
    by_cases h1 : k < n
    · have c1 : wr.cell? ⟨b, off + k, none⟩ = some (.int .i64 (F k)) := (hb.cell (p := ⟨b, off + k, none⟩) hlt).trans (HC.out k h1)
      have c2 := World.rowIs.cell ho h1
      have c3 := World.rowIs.frozen ho k
      go_wp2
      go_roundw
      case rel => exact ⟨k + 1, by go_num, by omega, copy_set ho, hb.setCell (Nat.le_refl _) _⟩
      case measure => simp [intOf]; omega
    · have hd : decide (k < n) = false := by simpa using h1
      obtain rfl : k = n := by omega
      go_wp2
      go_ret
      exact ⟨rfl, World.rowIs.congr ho (fun j hj => by simp [hj]), hb⟩
theorem toInt_none (a : Option Addr) (cap : Nat) (F : Nat → Int) (w : World) : Calls Tryd.prog 13 #[.slice a 0 cap] w (CopyP w 0 F) := by
  have hmk : ∀ w : World, (Instr.makeSlice 24 (.int .i64 0) (.int .i64 0)).run Tryd.prog w = .ok (.slice (some ⟨w.heap.size, 0, none⟩) 0 0) (w.alloc (.cells (madeCells #[.int .i64 0] 0) 3)) :=
    run_make_row' (P := Tryd.prog) 24 3 (.int .i64 0) 8 Tryd.underlying24 info3 rfl .i64 .i64 0 (by omega) (by omega)
  go_enter Tryd.func13, Tryd.ntmps13
  go_wp2
  refine wp_loop_rounds 1 ?_
  rw [rounds_succ]
  go_wp2
  go_ret
  exact ⟨rfl, (World.rowIs_made w (.int .i64 0) 0 3).congr (fun j hj => by omega), (Below.refl _ _).alloc (Nat.le_refl _) _⟩
theorem toInt_c (a : Option Addr) (n cap : Nat) (F : Nat → Int) (w : World) (hn : n ≤ 1048576) (hs : Src w a n F) : Calls Tryd.prog 13 #[.slice a n cap] w (CopyP w n F) := by
  rcases hs with rfl | ⟨b, off, rfl, hlt, hc⟩
  · exact toInt_none a cap F w
  · exact toInt_some b off n cap F w hn hlt hc
def TrueP (w : World) (e : Ending) (w' : World) : Prop := e = .returned (.bool true) ∧ Below w.heap.size w w'
set_option maxHeartbeats 800000 in
theorem eq_some (b off b2 off2 n cap cap2 : Nat) (F : Nat → Int) (w : World) (hn : n ≤ 1048576) (hlt : b < w.heap.size) (hlt2 : b2 < w.heap.size) (hc : ∀ j, j < n → w.cell? ⟨b, off + j, none⟩ = some (.int .i64 (F j))) (hc2 : ∀ j, j < n → w.cell? ⟨b2, off2 + j, none⟩ = some (.int .i64 (F j))) :
    Calls Tryd.prog 14 #[.slice (some ⟨b, off, none⟩) n cap, .slice (some ⟨b2, off2, none⟩) n cap2] w (TrueP w) := by
  have HC := Lib.hid hc
  have HC2 := Lib.hid hc2
  clear hc hc2
  go_enter Tryd.func14, Tryd.ntmps14
  go_wp2_with fail
  go_loopw [5] (fun i wr => ∃ k : Nat, i = .int .i64 k ∧ k ≤ n ∧ Below w.heap.size w wr) (fun i _ => n - (intOf i).toNat)
  case atStart => exact ⟨0, rfl, Nat.zero_le _, Below.refl _ _⟩
  case round =>
    obtain ⟨k, rfl, hk, hb⟩ := hrel
    by_cases h1 : k < n
    · have c1 : wr.cell? ⟨b, off + k, none⟩ = some (.int .i64 (F k)) := (hb.cell (p := ⟨b, off + k, none⟩) hlt).trans (HC.out k h1)
      have c2 : wr.cell? ⟨b2, off2 + k, none⟩ = some (.int .i64 (F k)) := (hb.cell (p := ⟨b2, off2 + k, none⟩) hlt2).trans (HC2.out k h1)
      go_wp2
      go_quiet (fail)
      go_wp2
      go_roundw
      case rel => exact ⟨k + 1, by go_num, by omega, below_drewN hb _⟩
      case measure => simp [intOf]; omega
    · have hd : decide (k < n) = false := by simpa using h1
      go_wp2
      go_ret
      exact ⟨rfl, hb⟩
theorem eq_none (a a2 : Option Addr) (cap cap2 : Nat) (w : World) : Calls Tryd.prog 14 #[.slice a 0 cap, .slice a2 0 cap2] w (TrueP w) := by
  go_enter Tryd.func14, Tryd.ntmps14
  go_wp2
  refine wp_loop_rounds 1 ?_
  rw [rounds_succ]
  go_wp2
  go_ret
  exact ⟨rfl, Below.refl _ _⟩
theorem eq_c (a a2 : Option Addr) (n cap cap2 : Nat) (F : Nat → Int) (w : World) (hn : n ≤ 1048576) (hs : Src w a n F) (hs2 : Src w a2 n F) : Calls Tryd.prog 14 #[.slice a n cap, .slice a2 n cap2] w (TrueP w) := by
  rcases hs with rfl | ⟨b, off, rfl, hlt, hc⟩
  · exact eq_none a a2 cap cap2 w
  · rcases hs2 with rfl | ⟨b2, off2, rfl, hlt2, hc2⟩
    · exact eq_none _ a2 cap cap2 w
    · exact eq_some b off b2 off2 n cap cap2 F w hn hlt hlt2 hc hc2
/-- The sum of products of the first k pairs. -/
def dotF (f : Int) (A B : Nat → Int) : Nat → Int
  | 0 => 0
  | k + 1 => mAdd f (dotF f A B k) (mMul f (A k) (B k))
theorem dotF_bd {f : Int} (h0 : 0 ≤ f) (h8 : f ≤ 8) (A B : Nat → Int) (k : Nat) : 0 ≤ dotF f A B k ∧ dotF f A B k < P f := by
  have hp := P_bd h0 h8
  cases k with
  | zero => exact ⟨Int.le_refl _, by show (0 : Int) < _; omega⟩
  | succ k => rw [dotF, mAdd, if_pos ⟨h0, h8⟩]; exact RS_bd (by omega)
def IntP (w : World) (x : Int) (e : Ending) (w' : World) : Prop := e = .returned (.int .i64 x) ∧ Below w.heap.size w w'
def mDot (f : Int) (A B : Nat → Int) (n m : Nat) : Int := if (0 ≤ f ∧ f ≤ 8) ∧ n ≤ 4096 ∧ m ≤ 4096 then dotF f A B (min n m) else -1
/-- The program's step is the specification's. -/
theorem dot_step {f : Int} (h0 : 0 ≤ f) (h8 : f ≤ 8) (A B : Nat → Int) (k : Nat) : RS (dotF f A B k + RS (RS (A k) (P f) * RS (B k) (P f)) (P f)) (P f) = dotF f A B (k + 1) := by
  rw [dotF, mAdd, if_pos ⟨h0, h8⟩, mMul, if_pos ⟨h0, h8⟩, RS_mul]
set_option maxRecDepth 100000 in
set_option maxHeartbeats 1600000 in
theorem iDot_m (f : Int) (b off b2 off2 n m cap cap2 : Nat) (A B : Nat → Int) (w : World) (ht : Tab w) (h0 : 0 ≤ f) (h8 : f ≤ 8) (hn : n ≤ 4096) (hm : m ≤ 4096) (hmn : m < n) (hlt : b < w.heap.size) (hlt2 : b2 < w.heap.size)
    (hc : ∀ j, j < n → w.cell? ⟨b, off + j, none⟩ = some (.int .i64 (A j))) (hc2 : ∀ j, j < m → w.cell? ⟨b2, off2 + j, none⟩ = some (.int .i64 (B j))) :
    Calls Tryd.prog 11 #[.int .i64 f, .slice (some ⟨b, off, none⟩) n cap, .slice (some ⟨b2, off2, none⟩) m cap2] w (IntP w (dotF f A B m)) := by
  have HC := Lib.hid hc
  have HC2 := Lib.hid hc2
  clear hc hc2
  have hp := P_bd h0 h8
  have hd1 : decide ((4096 : Int) < n) = false := by simp; omega
  have hd2 : decide ((4096 : Int) < m) = false := by simp; omega
  go_enter Tryd.func11, Tryd.ntmps11
  go_wp2_with fail
  refine (known_yes f w h0 h8).mono ?_
  rintro e w' ⟨rfl, rfl⟩
  go_wp2_with fail
  go_loopw [8, 9, 29] (fun s _ i wr => ∃ k : Nat, i = .int .i64 k ∧ k ≤ m ∧ s = .int .i64 (dotF f A B k) ∧ Below w.heap.size w wr) (fun _ _ i _ => m - (intOf i).toNat)
  case atStart => exact ⟨0, rfl, Nat.zero_le _, rfl, Below.refl _ _⟩
  case round =>
    obtain ⟨k, rfl, hk, rfl, hb⟩ := hrel
    by_cases h1 : k < m
    · have kn : k < n := by omega
      have km : k < m := by omega
      have c1 : wr.cell? ⟨b, off + k, none⟩ = some (.int .i64 (A k)) := (hb.cell (p := ⟨b, off + k, none⟩) hlt).trans (HC.out k kn)
      have c2 : wr.cell? ⟨b2, off2 + k, none⟩ = some (.int .i64 (B k)) := (hb.cell (p := ⟨b2, off2 + k, none⟩) hlt2).trans (HC2.out k km)
      have HT := Lib.hid (fun q => Tab.keep (w' := wr.drewN q) (ht.below hb) (fun _ => rfl))
      have bs := dotF_bd h0 h8 A B k
      have ba := RS_bd (x := A k) (m := P f) (by omega)
      have bb := RS_bd (x := B k) (m := P f) (by omega)
      have bm := RS_bd (x := RS (A k) (P f) * RS (B k) (P f)) (m := P f) (by omega)
      have HS := Lib.hid (dot_step h0 h8 A B k)
      go_wp2
      go_quiet ((first | (go_at_call 28; exact quiet_left (reduce_c f _ _ (HT.out _) h0 h8)) | (go_at_call 27; exact quiet_left (mul_c f (RS (A k) (P f)) (RS (B k) (P f)) _ (HT.out _) h0 h8 ba.1 ba.2 bb.1 bb.2)) | (go_at_call 26; exact quiet_left (add_c f (dotF f A B k) (RS (RS (A k) (P f) * RS (B k) (P f)) (P f)) _ (HT.out _) h0 h8 bs.1 bs.2 bm.1 bm.2))))
      go_wp2
      go_roundw
      case rel => exact ⟨k + 1, by go_num, by omega, vint HS.out, below_drewN hb _⟩
      case measure => simp [intOf]; omega
    · have hd : decide (k < m) = false := by simpa using h1
      obtain rfl : k = m := by omega
      go_wp2
      go_ret
      exact ⟨rfl, hb⟩
set_option maxRecDepth 100000 in
set_option maxHeartbeats 1600000 in
theorem iDot_n (f : Int) (b off b2 off2 n m cap cap2 : Nat) (A B : Nat → Int) (w : World) (ht : Tab w) (h0 : 0 ≤ f) (h8 : f ≤ 8) (hn : n ≤ 4096) (hm : m ≤ 4096) (hmn : n ≤ m) (hlt : b < w.heap.size) (hlt2 : b2 < w.heap.size)
    (hc : ∀ j, j < n → w.cell? ⟨b, off + j, none⟩ = some (.int .i64 (A j))) (hc2 : ∀ j, j < m → w.cell? ⟨b2, off2 + j, none⟩ = some (.int .i64 (B j))) :
    Calls Tryd.prog 11 #[.int .i64 f, .slice (some ⟨b, off, none⟩) n cap, .slice (some ⟨b2, off2, none⟩) m cap2] w (IntP w (dotF f A B n)) := by
  have HC := Lib.hid hc
  have HC2 := Lib.hid hc2
  clear hc hc2
  have hp := P_bd h0 h8
  have hd1 : decide ((4096 : Int) < n) = false := by simp; omega
  have hd2 : decide ((4096 : Int) < m) = false := by simp; omega
  go_enter Tryd.func11, Tryd.ntmps11
  go_wp2_with fail
  refine (known_yes f w h0 h8).mono ?_
  rintro e w' ⟨rfl, rfl⟩
  go_wp2_with fail
  go_loopw [8, 9, 29] (fun s _ i wr => ∃ k : Nat, i = .int .i64 k ∧ k ≤ n ∧ s = .int .i64 (dotF f A B k) ∧ Below w.heap.size w wr) (fun _ _ i _ => n - (intOf i).toNat)
  case atStart => exact ⟨0, rfl, Nat.zero_le _, rfl, Below.refl _ _⟩
  case round =>
    obtain ⟨k, rfl, hk, rfl, hb⟩ := hrel
    by_cases h1 : k < n
    · have kn : k < n := by omega
      have km : k < m := by omega
      have c1 : wr.cell? ⟨b, off + k, none⟩ = some (.int .i64 (A k)) := (hb.cell (p := ⟨b, off + k, none⟩) hlt).trans (HC.out k kn)
      have c2 : wr.cell? ⟨b2, off2 + k, none⟩ = some (.int .i64 (B k)) := (hb.cell (p := ⟨b2, off2 + k, none⟩) hlt2).trans (HC2.out k km)
      have HT := Lib.hid (fun q => Tab.keep (w' := wr.drewN q) (ht.below hb) (fun _ => rfl))
      have bs := dotF_bd h0 h8 A B k
      have ba := RS_bd (x := A k) (m := P f) (by omega)
      have bb := RS_bd (x := B k) (m := P f) (by omega)
      have bm := RS_bd (x := RS (A k) (P f) * RS (B k) (P f)) (m := P f) (by omega)
      have HS := Lib.hid (dot_step h0 h8 A B k)
      go_wp2
      go_quiet ((first | (go_at_call 28; exact quiet_left (reduce_c f _ _ (HT.out _) h0 h8)) | (go_at_call 27; exact quiet_left (mul_c f (RS (A k) (P f)) (RS (B k) (P f)) _ (HT.out _) h0 h8 ba.1 ba.2 bb.1 bb.2)) | (go_at_call 26; exact quiet_left (add_c f (dotF f A B k) (RS (RS (A k) (P f) * RS (B k) (P f)) (P f)) _ (HT.out _) h0 h8 bs.1 bs.2 bm.1 bm.2))))
      go_wp2
      go_roundw
      case rel => exact ⟨k + 1, by go_num, by omega, vint HS.out, below_drewN hb _⟩
      case measure => simp [intOf]; omega
    · have hd : decide (k < n) = false := by simpa using h1
      obtain rfl : k = n := by omega
      go_wp2
      go_ret
      exact ⟨rfl, hb⟩
theorem iDot_none (f : Int) (a a2 : Option Addr) (n m cap cap2 : Nat) (w : World) (h0 : 0 ≤ f) (h8 : f ≤ 8) (hn : n ≤ 4096) (hm : m ≤ 4096) (hz : n = 0 ∨ m = 0) :
    Calls Tryd.prog 11 #[.int .i64 f, .slice a n cap, .slice a2 m cap2] w (IntP w 0) := by
  have hd1 : decide ((4096 : Int) < n) = false := by simp; omega
  have hd2 : decide ((4096 : Int) < m) = false := by simp; omega
  by_cases h1 : m < n
  · obtain rfl : m = 0 := by omega
    go_enter Tryd.func11, Tryd.ntmps11
    go_wp2_with fail
    refine (known_yes f w h0 h8).mono ?_
    rintro e w' ⟨rfl, rfl⟩
    go_wp2_with fail
    refine wp_loop_rounds 1 ?_
    rw [rounds_succ]
    go_wp2
    go_ret
    exact ⟨rfl, Below.refl _ _⟩
  · obtain rfl : n = 0 := by omega
    go_enter Tryd.func11, Tryd.ntmps11
    go_wp2_with fail
    refine (known_yes f w h0 h8).mono ?_
    rintro e w' ⟨rfl, rfl⟩
    go_wp2_with fail
    refine wp_loop_rounds 1 ?_
    rw [rounds_succ]
    go_wp2
    go_ret
    exact ⟨rfl, Below.refl _ _⟩
theorem iDot_off (f : Int) (a a2 : Option Addr) (n m cap cap2 : Nat) (w : World) (hk : ¬ ((0 ≤ f ∧ f ≤ 8) ∧ n ≤ 4096 ∧ m ≤ 4096)) (hn : n ≤ 1048576) (hm : m ≤ 1048576) :
    Calls Tryd.prog 11 #[.int .i64 f, .slice a n cap, .slice a2 m cap2] w (IntP w (-1)) := by
  by_cases h : 0 ≤ f ∧ f ≤ 8
  · by_cases h1 : n ≤ 4096
    · have hd1 : decide ((4096 : Int) < n) = false := by simp; omega
      have hd2 : decide ((4096 : Int) < m) = true := by simp; omega
      go_enter Tryd.func11, Tryd.ntmps11
      go_wp2_with fail
      refine (known_yes f w h.1 h.2).mono ?_
      rintro e w' ⟨rfl, rfl⟩
      go_wp2
      go_ret
      exact ⟨rfl, Below.refl _ _⟩
    · have hd1 : decide ((4096 : Int) < n) = true := by simp; omega
      go_enter Tryd.func11, Tryd.ntmps11
      go_wp2_with fail
      refine (known_yes f w h.1 h.2).mono ?_
      rintro e w' ⟨rfl, rfl⟩
      go_wp2
      go_ret
      exact ⟨rfl, Below.refl _ _⟩
  · go_enter Tryd.func11, Tryd.ntmps11
    go_wp2_with fail
    refine (known_no f w (by omega)).mono ?_
    rintro e w' ⟨rfl, rfl⟩
    go_wp2
    go_ret
    exact ⟨rfl, Below.refl _ _⟩
theorem iDot (f : Int) (a a2 : Option Addr) (n m cap cap2 : Nat) (A B : Nat → Int) (w : World) (ht : Tab w) (hn : n ≤ 1048576) (hm : m ≤ 1048576) (hs : Src w a n A) (hs2 : Src w a2 m B) :
    Calls Tryd.prog 11 #[.int .i64 f, .slice a n cap, .slice a2 m cap2] w (IntP w (mDot f A B n m)) := by
  by_cases hk : (0 ≤ f ∧ f ≤ 8) ∧ n ≤ 4096 ∧ m ≤ 4096
  · rw [mDot, if_pos hk]
    obtain ⟨⟨h0, h8⟩, h1, h2⟩ := hk
    by_cases hz : n = 0 ∨ m = 0
    · rw [show min n m = 0 by omega]
      exact iDot_none f a a2 n m cap cap2 w h0 h8 h1 h2 hz
    · rcases hs with h | ⟨b, off, rfl, hlt, hc⟩
      · exact absurd (.inl h) hz
      · rcases hs2 with h | ⟨b2, off2, rfl, hlt2, hc2⟩
        · exact absurd (.inr h) hz
        · by_cases hmn : m < n
          · rw [show min n m = m by omega]
            exact iDot_m f b off b2 off2 n m cap cap2 A B w ht h0 h8 h1 h2 hmn hlt hlt2 hc hc2
          · rw [show min n m = n by omega]
            exact iDot_n f b off b2 off2 n m cap cap2 A B w ht h0 h8 h1 h2 (by omega) hlt hlt2 hc hc2
  · rw [mDot, if_neg hk]
    exact iDot_off f a a2 n m cap cap2 w hk hn hm
theorem src_of_row {w : World} {a : Option Addr} {len cap : Nat} {zs : List Int} (h : IsRow .i64 w a len cap zs) : Src w a len (fun j => zs.getD j 0) := by
  by_cases h0 : len = 0
  · exact .inl h0
  · refine .inr ?_
    rcases h with ⟨_, h, _⟩ | ⟨x, rfl, hc, _, hz, hcell, hwf⟩
    · exact absurd h h0
    · have hs := cell_some (hcell 0 (by omega))
      obtain ⟨b, off, sp⟩ := x
      obtain ⟨hs1, hs2⟩ := hs
      have hs3 : sp = none := hs1
      subst hs3
      exact ⟨b, off, rfl, hs2, fun j hj => by rw [← add_at]; exact hcell j (by omega)⟩
end Go.Proofs.YtajlhgiihneeiaaDoor
