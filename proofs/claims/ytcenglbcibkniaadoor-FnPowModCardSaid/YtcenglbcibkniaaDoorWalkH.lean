/-
  The draws of numbers, of a field, of an element, of any integer.
-/
import Derived.Test.YtcenglbcibkniaaDoorWalkG
namespace Go.Proofs.YtcenglbcibkniaaDoor
open Go.RowKit
theorem mod_bd {x n : Int} (hn : 0 < n) : 0 ≤ x % n ∧ x % n < n := ⟨Int.emod_nonneg _ (by omega), Int.emod_lt_of_pos _ hn⟩
set_option maxHeartbeats 400000 in
theorem below_c (g : Nat) (n : Int) (w : World) (hc : Cur g w) (n0 : 0 < n) (n1 : n ≤ 16777216) : Calls Tryd.prog 45 #[.pointer (some ⟨g, 0, none⟩), .int .i64 n] w (DrawInt g w (fun r => 0 ≤ r ∧ r < n)) := by
  by_cases hn : n ≤ 256
  · go_enter Tryd.func45, Tryd.ntmps45
    go_wp2_with fail
    refine (byte_c g w hc).mono ?_
    rintro e w1 ⟨x, ⟨x0, x1⟩, rfl, g1, c1⟩
    go_wp2
    go_ret
    exact ⟨_, mod_bd n0, rfl, g1, c1⟩
  · go_enter Tryd.func45, Tryd.ntmps45
    go_wp2_with fail
    refine (byte_c g w hc).mono ?_
    rintro e w1 ⟨x, ⟨x0, x1⟩, rfl, g1, c1⟩
    go_wp2_with fail
    refine (byte_c g w1 c1).mono ?_
    rintro e w2 ⟨y, ⟨y0, y1⟩, rfl, g2, c2⟩
    go_wp2_with fail
    refine (byte_c g w2 c2).mono ?_
    rintro e w3 ⟨z, ⟨z0, z1⟩, rfl, g3, c3⟩
    go_wp2
    go_ret
    exact ⟨_, mod_bd n0, rfl, (g1.trans g2).trans g3, c3⟩
def DrawBool (g : Nat) (w : World) (e : Ending) (w' : World) : Prop := ∃ b : Bool, e = .returned (.bool b) ∧ w.grownBy w' (some g) ∧ Cur g w'
theorem once_c (g : Nat) (n : Int) (w : World) (hc : Cur g w) (n0 : 0 < n) (n1 : n ≤ 16777216) : Calls Tryd.prog 43 #[.pointer (some ⟨g, 0, none⟩), .int .i64 n] w (DrawBool g w) := by
  go_enter Tryd.func43, Tryd.ntmps43
  go_wp2_with fail
  refine (below_c g n w hc n0 n1).mono ?_
  rintro e w1 ⟨x, ⟨x0, x1⟩, rfl, g1, c1⟩
  go_wp2
  go_ret
  exact ⟨_, rfl, g1, c1⟩
/-- A short list of integers in a block of its own. -/
def Ints (Q : Int → Prop) (w : World) (g lb len : Nat) : Prop := lb ≠ g ∧ ∀ j : Nat, j < len → ∃ n : Int, w.cell? ⟨lb, j, none⟩ = some (.int .i64 n) ∧ Q n
set_option maxHeartbeats 400000 in
theorem pick_c (Q : Int → Prop) (g lb len cap : Nat) (w : World) (hc : Cur g w) (l0 : 0 < len) (l1 : len ≤ 100) (hl : Ints Q w g lb len) : Calls Tryd.prog 56 #[.pointer (some ⟨g, 0, none⟩), .slice (some ⟨lb, 0, none⟩) len cap] w (DrawInt g w Q) := by
  go_enter Tryd.func56, Tryd.ntmps56
  go_wp2_with fail
  refine (below_c g len w hc (by omega) (by omega)).mono ?_
  rintro e w1 ⟨x, ⟨x0, x1⟩, rfl, g1, c1⟩
  obtain ⟨n, hn, hq⟩ := hl.2 x.toNat (by omega)
  have HQ := Lib.hid hq
  clear hq
  have hn1 : w1.cell? ⟨lb, x.toNat, none⟩ = some (.int .i64 n) := g1.cell hn (fun e => by injection e with e; exact hl.1 e)
  go_wp2
  go_ret
  exact ⟨_, HQ.out, rfl, g1, c1⟩
theorem Cur.alloc {g : Nat} {w : World} (h : Cur g w) (o : Obj) : Cur g (w.alloc o) := by
  obtain ⟨a, len, cap, i, hh, h0, h1, h2, f1, f2, i0, i1, hgs, hby⟩ := h
  have hg := World.grownBy_alloc w o none
  have c : ∀ k v, w.cell? ⟨g, k, none⟩ = some v → (w.alloc o).cell? ⟨g, k, none⟩ = some v := fun k v hv => hg.cell hv (by simp)
  have fz : ∀ k, (w.alloc o).frozen? ⟨g, k, none⟩ = w.frozen? ⟨g, k, none⟩ := fun k => hg.frozen_far ⟨g, k, none⟩ hgs (by simp)
  exact ⟨a, len, cap, i, hh, c _ _ h0, c _ _ h1, c _ _ h2, (fz _).trans f1, (fz _).trans f2, i0, i1, Nat.lt_of_lt_of_le hgs hg.size, hby.keep (World.grownBy_alloc w o (some g))⟩
theorem Cur.other {g : Nat} {w w' : World} {row : Option Nat} (h : Cur g w) (hg : w.grownBy w' row) (hr : ∀ k, row = some k → g < k) : Cur g w' := by
  obtain ⟨a, len, cap, i, hh, h0, h1, h2, f1, f2, i0, i1, hgs, hby⟩ := h
  have ne : ∀ b, b ≤ g → some b ≠ row := fun b hb e => by have := hr b e.symm; omega
  have c : ∀ k v, w.cell? ⟨g, k, none⟩ = some v → w'.cell? ⟨g, k, none⟩ = some v := fun k v hv => hg.cell hv (ne g (Nat.le_refl _))
  have fz : ∀ k, w'.frozen? ⟨g, k, none⟩ = w.frozen? ⟨g, k, none⟩ := fun k => hg.frozen_far ⟨g, k, none⟩ hgs (ne g (Nat.le_refl _))
  refine ⟨a, len, cap, i, hh, c _ _ h0, c _ _ h1, c _ _ h2, (fz _).trans f1, (fz _).trans f2, i0, i1, Nat.lt_of_lt_of_le hgs hg.size, hby.1, hby.2.imp id ?_⟩
  rintro ⟨b, off, e, hne, hlt, hb⟩
  refine ⟨b, off, e, hne, Nat.lt_of_lt_of_le hlt hg.size, fun j hj => ?_⟩
  obtain ⟨n, n0, n1, hc⟩ := hb j hj
  exact ⟨n, n0, n1, hg.cell hc (ne b (by omega))⟩
theorem Cur.lt {g : Nat} {w : World} (h : Cur g w) : g < w.heap.size := by
  obtain ⟨a, len, cap, i, hh, h0, h1, h2, f1, f2, i0, i1, hgs, hby⟩ := h
  exact hgs
theorem ints_alloc (Q : Int → Prop) {w : World} {g : Nat} (hg : g < w.heap.size) (cs : Array Value) (t : TypeId) (h : ∀ j, j < cs.size → ∃ n : Int, cs[j]? = some (.int .i64 n) ∧ Q n) : Ints Q (w.alloc (.cells cs t)) g w.heap.size cs.size := by
  refine ⟨by omega, fun j hj => ?_⟩
  obtain ⟨n, hn, hq⟩ := h j hj
  refine ⟨n, ?_, hq⟩
  unfold World.cell? World.alloc
  simp [hn]
set_option maxHeartbeats 400000 in
theorem field_c (g : Nat) (w : World) (hc : Cur g w) : Calls Tryd.prog 42 #[.pointer (some ⟨g, 0, none⟩)] w (DrawInt g w (fun _ => True)) := by
  go_enter Tryd.func42, Tryd.ntmps42
  go_wp2_with fail
  refine (once_c g 20 w hc (by omega) (by omega)).mono ?_
  rintro e w1 ⟨b, rfl, g1, c1⟩
  cases b
  · go_wp2_with fail
    refine (below_c g 9 w1 c1 (by omega) (by omega)).mono ?_
    rintro e w2 ⟨x, ⟨x0, x1⟩, rfl, g2, c2⟩
    go_wp2
    go_ret
    exact ⟨_, trivial, rfl, g1.trans g2, c2⟩
  · go_wp2_with fail
    refine (pick_c (fun _ => True) g w1.heap.size 3 3 _ (c1.alloc _) (by omega) (by omega) (ints_alloc (fun _ => True) c1.lt #[.int .i64 (-1), .int .i64 9, .int .i64 100] 3 (fun j hj => by
      have h3 : j = 0 ∨ j = 1 ∨ j = 2 := by have : j < 3 := hj; omega
      rcases h3 with rfl | rfl | rfl <;> exact ⟨_, rfl, trivial⟩))).mono ?_
    rintro e w2 ⟨x, _, rfl, g2, c2⟩
    go_wp2
    go_ret
    exact ⟨_, trivial, rfl, (g1.trans (World.grownBy_alloc _ _ _)).trans g2, c2⟩
set_option maxHeartbeats 800000 in
theorem element_c (g : Nat) (f : Int) (w : World) (hc : Cur g w) : Calls Tryd.prog 74 #[.pointer (some ⟨g, 0, none⟩), .int .i64 f] w (DrawInt g w (fun _ => True)) := by
  by_cases hk : 0 ≤ f ∧ f ≤ 8
  · have hp := P_bd hk.1 hk.2
    have hz : (P f == 0) = false := by simp; omega
    clear hk
    go_enter Tryd.func74, Tryd.ntmps74
    go_wp2_with fail
    refine (sModulus f w).mono ?_
    rintro e w' ⟨rfl, rfl⟩
    go_wp2_with fail
    refine (below_c g 6 w hc (by omega) (by omega)).mono ?_
    rintro e w1 ⟨x, ⟨x0, x1⟩, rfl, g1, c1⟩
    by_cases h0 : x = 0
    · subst h0
      go_wp2_with fail
      refine (below_c g 3 w1 c1 (by omega) (by omega)).mono ?_
      rintro e w2 ⟨y, ⟨y0, y1⟩, rfl, g2, c2⟩
      go_wp2
      go_ret
      exact ⟨_, trivial, rfl, g1.trans g2, c2⟩
    · have b0 : (x == 0) = false := by simpa using h0
      by_cases h1 : x = 1
      · subst h1
        go_wp2_with fail
        refine (below_c g 3 w1 c1 (by omega) (by omega)).mono ?_
        rintro e w2 ⟨y, ⟨y0, y1⟩, rfl, g2, c2⟩
        go_wp2
        go_ret
        exact ⟨_, trivial, rfl, g1.trans g2, c2⟩
      · have b1 : (x == 1) = false := by simpa using h1
        by_cases h2 : x = 2
        · subst h2
          go_wp2_with fail
          refine (below_c g 16777216 w1 c1 (by omega) (by omega)).mono ?_
          rintro e w2 ⟨y, ⟨y0, y1⟩, rfl, g2, c2⟩
          go_wp2_with fail
          refine (below_c g 256 w2 c2 (by omega) (by omega)).mono ?_
          rintro e w3 ⟨z, ⟨z0, z1⟩, rfl, g3, c3⟩
          go_wp2
          go_ret
          exact ⟨_, trivial, rfl, (g1.trans g2).trans g3, c3⟩
        · have b2 : (x == 2) = false := by simpa using h2
          clear h0 h1 h2
          go_wp2_with fail
          refine (below_c g 30 w1 c1 (by omega) (by omega)).mono ?_
          rintro e w2 ⟨y, ⟨y0, y1⟩, rfl, g2, c2⟩
          go_wp2
          go_ret
          exact ⟨_, trivial, rfl, g1.trans g2, c2⟩
  · have hz : (P f == 0) = true := by simp [P_off (f := f) (by omega)]
    go_enter Tryd.func74, Tryd.ntmps74
    go_wp2_with fail
    refine (sModulus f w).mono ?_
    rintro e w' ⟨rfl, rfl⟩
    go_wp2_with fail
    refine (below_c g 50 w hc (by omega) (by omega)).mono ?_
    rintro e w1 ⟨x, ⟨x0, x1⟩, rfl, g1, c1⟩
    go_wp2
    go_ret
    exact ⟨_, trivial, rfl, g1, c1⟩
end Go.Proofs.YtcenglbcibkniaaDoor
