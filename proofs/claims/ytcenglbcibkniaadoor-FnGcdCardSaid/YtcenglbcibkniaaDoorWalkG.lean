/-
  The draws: a cursor over the bytes of a code. What a draw answers is an integer, and but for the cursor's own block and new ones the memory stands.
-/
import Derived.Test.YtcenglbcibkniaaDoorWalkB
import Derived.Deep.QuietTactic
import Derived.BigQuiet
import Derived.Maps.AppendAt
import Derived.Deep.AppendLies
namespace Go.Proofs.YtcenglbcibkniaaDoor
open Go.RowKit
theorem and_le (x : Int) (m : Nat) (hm : m ≤ 1073741823) : 0 ≤ bits .and .i64 x m ∧ bits .and .i64 x m ≤ m := by
  unfold bits
  show 0 ≤ IntKind.i64.wrap ((BitVec.ofInt 64 x &&& BitVec.ofInt 64 m).toNat : Int) ∧ IntKind.i64.wrap ((BitVec.ofInt 64 x &&& BitVec.ofInt 64 m).toNat : Int) ≤ m
  have h1 : (BitVec.ofInt 64 x &&& BitVec.ofInt 64 m).toNat ≤ m := by
    rw [BitVec.toNat_and]
    refine Nat.le_trans Nat.and_le_right ?_
    rw [BitVec.toNat_ofInt]
    have : ((m : Int) % ((2 ^ 64 : Nat) : Int)).toNat = m := by
      rw [Int.emod_eq_of_lt (by omega) (by omega)]; rfl
    omega
  rw [IntWalk.i64_in _ (by omega)]
  omega
/-- The bytes that a cursor reads, apart from its own block. -/
def Bytes (w : World) (g : Nat) (a : Option Addr) (len : Nat) : Prop :=
  len ≤ 1099511627776 ∧ (len = 0 ∨ ∃ b off, a = some ⟨b, off, none⟩ ∧ b < g ∧ b < w.heap.size ∧ ∀ j, j < len → ∃ n : Int, 0 ≤ n ∧ n < 256 ∧ w.cell? ⟨b, off + j, none⟩ = some (.int .u8 n))
def CurAt (g : Nat) (w : World) (a : Option Addr) (len cap : Nat) (i h : Int) : Prop :=
  w.cell? ⟨g, 0, none⟩ = some (.slice a len cap) ∧ w.cell? ⟨g, 1, none⟩ = some (.int .i64 i) ∧ w.cell? ⟨g, 2, none⟩ = some (.int .i64 h) ∧
  w.frozen? ⟨g, 1, none⟩ = false ∧ w.frozen? ⟨g, 2, none⟩ = false ∧ 0 ≤ i ∧ i ≤ len ∧ g < w.heap.size ∧ Bytes w g a len
def Cur (g : Nat) (w : World) : Prop := ∃ a len cap i h, CurAt g w a len cap i h
theorem Bytes.keep {w w' : World} {g : Nat} {a : Option Addr} {len : Nat} (h : Bytes w g a len) (hg : w.grownBy w' (some g)) : Bytes w' g a len := by
  refine ⟨h.1, h.2.imp id ?_⟩
  rintro ⟨b, off, e, hne, hlt, hb⟩
  refine ⟨b, off, e, hne, Nat.lt_of_lt_of_le hlt hg.size, fun j hj => ?_⟩
  obtain ⟨n, n0, n1, hc⟩ := hb j hj
  exact ⟨n, n0, n1, hg.cell hc (fun e => by injection e with e; have e : b = g := e; omega)⟩
def DrawInt (g : Nat) (w : World) (Q : Int → Prop) (e : Ending) (w' : World) : Prop := ∃ n, Q n ∧ e = .returned (.int .i64 n) ∧ w.grownBy w' (some g) ∧ Cur g w'
theorem grown_drewN {w w' : World} {row : Option Nat} (h : w.grownBy w' row) (n : Nat) : w.grownBy (w'.drewN n) row := ⟨h.os, h.tape, h.output, h.size, h.block⟩
theorem grown_set {w w' : World} {g : Nat} (h : w.grownBy w' (some g)) (o : Nat) (v : Value) : w.grownBy (w'.setCell ⟨g, o, none⟩ v) (some g) :=
  ⟨h.os, h.tape, h.output, by simpa [World.setCell] using h.size, fun i hi hne => (Below.heap_setCell w' _ v i (fun e => hne (by rw [e]))).trans (h.block i hi hne)⟩
theorem cur_step {w w' : World} {g : Nat} {a : Option Addr} {len cap : Nat} {i : Int} (hby : Bytes w g a len) (hgs : g < w.heap.size) (hg : w.grownBy w' (some g)) (h0 : w'.cell? ⟨g, 0, none⟩ = some (.slice a len cap)) (h1 : w'.cell? ⟨g, 1, none⟩ = some (.int .i64 i)) (h2 : ∃ h, w'.cell? ⟨g, 2, none⟩ = some (.int .i64 h))
    (f1 : w'.frozen? ⟨g, 1, none⟩ = false) (f2 : w'.frozen? ⟨g, 2, none⟩ = false) (i0 : 0 ≤ i) (i1 : i ≤ len) : Cur g w' :=
  h2.elim fun h h2 => ⟨a, len, cap, i, h, h0, h1, h2, f1, f2, i0, i1, Nat.lt_of_lt_of_le hgs hg.size, hby.keep hg⟩
set_option maxRecDepth 100000 in
set_option maxHeartbeats 800000 in
theorem byte_in (g b off len cap : Nat) (i h n : Int) (w : World) (hg0 : w.cell? ⟨g, 0, none⟩ = some (.slice (some ⟨b, off, none⟩) len cap)) (hg1 : w.cell? ⟨g, 1, none⟩ = some (.int .i64 i)) (hg2 : w.cell? ⟨g, 2, none⟩ = some (.int .i64 h))
    (hf1 : w.frozen? ⟨g, 1, none⟩ = false) (hf2 : w.frozen? ⟨g, 2, none⟩ = false) (i0 : 0 ≤ i) (i1 : i < len) (hl : len ≤ 1099511627776) (hne : b ≠ g) (hb : w.cell? ⟨b, off + i.toNat, none⟩ = some (.int .u8 n)) (n0 : 0 ≤ n) (n1 : n < 256)
    (hby : Hid (Bytes w g (some ⟨b, off, none⟩) len)) (hgs : g < w.heap.size) :
    Calls Tryd.prog 68 #[.pointer (some ⟨g, 0, none⟩)] w (DrawInt g w (fun n => 0 ≤ n ∧ n < 256)) := by
  go_enter Tryd.func68, Tryd.ntmps68
  go_wp2
  go_quiet (fail)
  go_wp2
  go_quiet (fail)
  go_wp2
  go_quiet (fail)
  go_wp2
  go_ret
  refine ⟨_, ⟨(and_le _ 255 (by omega)).1, Int.lt_of_le_of_lt (and_le _ 255 (by omega)).2 (by omega)⟩, rfl, ?_, ?_⟩
  · (repeat (first | exact World.grownBy.refl _ _ | refine grown_drewN ?_ _ | refine grown_set ?_ _ _))
  · refine cur_step (cap := cap) hby.out hgs (i := i + 1) ?_ ?_ ?_ ?_ ?_ ?_ (by omega) (by omega)
    · (repeat (first | exact World.grownBy.refl _ _ | refine grown_drewN ?_ _ | refine grown_set ?_ _ _))
    · simp [go_sem, hg0]
    · simp [go_sem, hg1]
    · exact ⟨_, by simp [go_sem, hg2]; rfl⟩
    · simp [hf1]
    · simp [hf2]
set_option maxRecDepth 100000 in
set_option maxHeartbeats 800000 in
theorem byte_out (g len cap : Nat) (a : Option Addr) (h : Int) (w : World) (hg0 : w.cell? ⟨g, 0, none⟩ = some (.slice a len cap)) (hg1 : w.cell? ⟨g, 1, none⟩ = some (.int .i64 len)) (hg2 : w.cell? ⟨g, 2, none⟩ = some (.int .i64 h))
    (hf1 : w.frozen? ⟨g, 1, none⟩ = false) (hf2 : w.frozen? ⟨g, 2, none⟩ = false) (hl : len ≤ 1099511627776)
    (hby : Hid (Bytes w g a len)) (hgs : g < w.heap.size) :
    Calls Tryd.prog 68 #[.pointer (some ⟨g, 0, none⟩)] w (DrawInt g w (fun n => 0 ≤ n ∧ n < 256)) := by
  have hd : decide (len < len) = false := by simp
  go_enter Tryd.func68, Tryd.ntmps68
  go_wp2
  go_quiet (fail)
  go_wp2
  go_quiet (fail)
  go_wp2
  go_ret
  refine ⟨_, ⟨(and_le _ 255 (by omega)).1, Int.lt_of_le_of_lt (and_le _ 255 (by omega)).2 (by omega)⟩, rfl, ?_, ?_⟩
  · (repeat (first | exact World.grownBy.refl _ _ | refine grown_drewN ?_ _ | refine grown_set ?_ _ _))
  · refine cur_step (cap := cap) hby.out hgs (i := len) ?_ ?_ ?_ ?_ ?_ ?_ (by omega) (by omega)
    · (repeat (first | exact World.grownBy.refl _ _ | refine grown_drewN ?_ _ | refine grown_set ?_ _ _))
    · simp [go_sem, hg0]
    · simp [go_sem, hg1]
    · exact ⟨_, by simp [go_sem, hg2]; rfl⟩
    · simp [hf1]
    · simp [hf2]
theorem byte_c (g : Nat) (w : World) (hc : Cur g w) : Calls Tryd.prog 68 #[.pointer (some ⟨g, 0, none⟩)] w (DrawInt g w (fun n => 0 ≤ n ∧ n < 256)) := by
  obtain ⟨a, len, cap, i, h, hg0, hg1, hg2, hf1, hf2, i0, i1, hgs, hby⟩ := hc
  by_cases hi : i < len
  · rcases hby.2 with hz | ⟨b, off, rfl, hne, hlt, hb⟩
    · omega
    · obtain ⟨n, n0, n1, hcell⟩ := hb i.toNat (by omega)
      exact byte_in g b off len cap i h n w hg0 hg1 hg2 hf1 hf2 i0 hi hby.1 (by omega) hcell n0 n1 hby hgs
  · obtain rfl : i = len := by omega
    exact byte_out g len cap a h w hg0 hg1 hg2 hf1 hf2 hby.1 hby hgs
end Go.Proofs.YtcenglbcibkniaaDoor
