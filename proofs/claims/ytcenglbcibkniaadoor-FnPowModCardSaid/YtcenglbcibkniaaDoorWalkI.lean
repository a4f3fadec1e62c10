/-
  A new cursor; the second code of a law; the small tests of the laws.
-/
import Derived.Test.YtcenglbcibkniaaDoorWalkH
import Derived.Test.YtcenglbcibkniaaDoorWalkC
import Derived.OpenShut
namespace Go.Proofs.YtcenglbcibkniaaDoor
open Go.RowKit
def NewP (w : World) (e : Ending) (w' : World) : Prop := e = .returned (.pointer (some ⟨w.heap.size, 0, none⟩)) ∧ Below w.heap.size w w' ∧ Cur w.heap.size w'
theorem new_end {w : World} {a : Option Addr} {len cap : Nat} {h : Int} (hby : Bytes w w.heap.size a len) : Below w.heap.size w (w.alloc (.cells #[.slice a len cap, .int .i64 0, .int .i64 h] 65)) ∧ Cur w.heap.size (w.alloc (.cells #[.slice a len cap, .int .i64 0, .int .i64 h] 65)) := by
  refine ⟨(Below.refl _ _).alloc (Nat.le_refl _) _, a, len, cap, 0, h, ?_, ?_, ?_, ?_, ?_, by omega, by omega, by simp, hby.keep (World.grownBy_alloc w _ _)⟩
  · rw [World.cell?_alloc_at _ _ _ _ rfl]; rfl
  · rw [World.cell?_alloc_at _ _ _ _ rfl]; rfl
  · rw [World.cell?_alloc_at _ _ _ _ rfl]; rfl
  · exact World.frozen?_alloc_at _ _ _ _ rfl
  · exact World.frozen?_alloc_at _ _ _ _ rfl
set_option maxHeartbeats 800000 in
theorem new_some (b off len cap : Nat) (w : World) (hl : len ≤ 1099511627776) (hb : ∀ j, j < len → ∃ n : Int, 0 ≤ n ∧ n < 256 ∧ w.cell? ⟨b, off + j, none⟩ = some (.int .u8 n)) (hby : Hid (Bytes w w.heap.size (some ⟨b, off, none⟩) len)) :
    Calls Tryd.prog 41 #[.slice (some ⟨b, off, none⟩) len cap] w (NewP w) := by
  have HB := Lib.hid hb
  clear hb
  go_enter Tryd.func41, Tryd.ntmps41
  go_wp2_with fail
  go_loop [3, 4] (fun u v => ∃ (k : Nat) (h : Int), u = .int .i64 h ∧ v = .int .i64 k ∧ k ≤ len) (fun _ v => len - (intOf v).toNat)
  case atStart => exact ⟨0, _, rfl, rfl, Nat.zero_le _⟩
  case round =>
    obtain ⟨k, h, rfl, rfl, hk⟩ := hrel
    by_cases h1 : k < len
    · by_cases h2 : (k : Int) < 4000
      · obtain ⟨n, n0, n1, hc⟩ := HB.out k h1
        go_wp2
        go_round
        case rel => exact ⟨k + 1, _, rfl, by go_num, by omega⟩
        case measure => simp [intOf]; omega
      · have hd : decide ((k : Int) < 4000) = false := by simpa using h2
        go_wp2
        go_ret
        exact ⟨rfl, new_end hby.out⟩
    · have hd : decide (k < len) = false := by simpa using h1
      go_wp2
      go_ret
      exact ⟨rfl, new_end hby.out⟩
set_option maxHeartbeats 800000 in
theorem new_none (a : Option Addr) (cap : Nat) (w : World) (hby : Hid (Bytes w w.heap.size a 0)) : Calls Tryd.prog 41 #[.slice a 0 cap] w (NewP w) := by
  go_enter Tryd.func41, Tryd.ntmps41
  go_wp2
  refine wp_loop_rounds 1 ?_
  rw [rounds_succ]
  go_wp2
  go_ret
  exact ⟨rfl, new_end hby.out⟩
/-- A slice value whose bytes can be read. -/
def Code (w : World) (a : Option Addr) (len : Nat) : Prop := Bytes w w.heap.size a len
theorem new_c (a : Option Addr) (len cap : Nat) (w : World) (hc : Code w a len) : Calls Tryd.prog 41 #[.slice a len cap] w (NewP w) := by
  rcases hc.2 with rfl | ⟨b, off, rfl, hne, hlt, hb⟩
  · exact new_none a cap w hc
  · exact new_some b off len cap w hc.1 hb hc
theorem Code.keep {w w' : World} {a : Option Addr} {len : Nat} (h : Code w a len) (hb : Below w.heap.size w w') : Code w' a len := by
  refine ⟨h.1, h.2.imp id ?_⟩
  rintro ⟨b, off, e, hne, hlt, hbb⟩
  have hs := hb.size
  refine ⟨b, off, e, by omega, by omega, fun j hj => ?_⟩
  obtain ⟨n, n0, n1, hcell⟩ := hbb j hj
  exact ⟨n, n0, n1, (hb.cell (p := ⟨b, off + j, none⟩) hlt).trans hcell⟩
theorem big_no (a : Option Addr) (len cap : Nat) (w : World) (hl : len ≤ 1048576) : Calls Tryd.prog 7 #[.slice a len cap] w fun e w' => e = .returned (.bool false) ∧ w = w' := by
  have hd : decide ((1048576 : Int) < len) = false := by simp; omega
  go_enter Tryd.func7, Tryd.ntmps7
  go_wp2
  go_ret
  exact ⟨by simp, rfl⟩
theorem big_yes (a : Option Addr) (len cap : Nat) (w : World) (hl : 1048576 < len) : Calls Tryd.prog 7 #[.slice a len cap] w fun e w' => e = .returned (.bool true) ∧ w = w' := by
  have hd : decide ((1048576 : Int) < len) = true := by simp; omega
  go_enter Tryd.func7, Tryd.ntmps7
  go_wp2
  go_ret
  exact ⟨by simp, rfl⟩
theorem info5 : (Tryd.prog.info? 5).map (fun i => (i.zero, i.size, i.bytes)) = some (some (.int .u8 0), 1, 1) := by kernel_rfl
theorem info3 : (Tryd.prog.info? 3).map (fun i => (i.zero, i.size, i.bytes)) = some (some (.int .i64 0), 1, 8) := by kernel_rfl
def AllB (xs : List Value) : Prop := ∀ u, u ∈ xs → ∃ n : Int, u = .int .u8 n ∧ 0 ≤ n ∧ n < 256
def AltP (w : World) (e : Ending) (w' : World) : Prop := ∃ a len cap, e = .returned (.slice a len cap) ∧ Below w.heap.size w w' ∧ Code w' a len
theorem code_of_owns {w w' : World} {v : Value} {n : Nat} {xs : List Value} (_hb : Below w.heap.size w w') (h : w'.ownsRow w.heap.size 5 1 v n xs) (hn : n ≤ 1099511627776) (hx : AllB xs) : ∃ a len cap, v = .slice a len cap ∧ Code w' a len := by
  obtain ⟨hl, h⟩ := h
  rcases h with ⟨rfl, rfl⟩ | ⟨g, cap, cur, rfl, hg, hh, hc, hm, hs, ht⟩
  · exact ⟨none, 0, 0, rfl, by omega, .inl rfl⟩
  · have hgs : g < w'.heap.size := (Array.getElem?_eq_some_iff.1 hh).1
    refine ⟨_, _, _, rfl, hn, .inr ⟨g, 0, rfl, by omega, hgs, fun j hj => ?_⟩⟩
    have hj2 : j < xs.length := by omega
    obtain ⟨m, hm1, m0, m1⟩ := hx xs[j] (List.getElem_mem hj2)
    refine ⟨m, m0, m1, ?_⟩
    have hcur : cur.toList[j]? = some (.int .u8 m) := by
      have : (List.take (n * 1) cur.toList)[j]? = some (.int .u8 m) := by rw [ht, List.getElem?_eq_getElem hj2, hm1]
      rw [List.getElem?_take_of_lt (by omega)] at this; exact this
    unfold World.cell?
    rw [hh]
    simp
    simpa using hcur
theorem own_ge {w : World} {base : Nat} {e : TypeId} {size : Nat} {v : Value} {n : Nat} {xs : List Value} (h : w.ownsRow base e size v n xs) : ∀ k, v.ownBlock = some k → base ≤ k := by
  intro k hk
  rcases h.2 with ⟨rfl, _⟩ | ⟨g, cap, cur, rfl, hg, _⟩
  · cases hk
  · cases hk; exact hg
theorem own_new (w : World) (u : Value) (t : TypeId) : (w.alloc (.cells #[u] t)).ownsRow w.heap.size t 1 (.slice (some ⟨w.heap.size, 0, none⟩) 1 1) (0 + 1) [u] :=
  ⟨rfl, .inr ⟨w.heap.size, 1, #[u], rfl, Nat.le_refl _, by unfold World.alloc; simp, by omega, by unfold maxLen; omega, rfl, rfl⟩⟩
theorem below_of_grown {w w1 w2 : World} (hb : Below w.heap.size w w1) (hg : w1.grownBy w2 (some w.heap.size)) : Below w.heap.size w w2 :=
  ⟨hg.os.trans hb.os, hg.tape.trans hb.tape, hg.output.trans hb.output, Nat.le_trans hb.size hg.size, fun k hk => (hg.block k (Nat.lt_of_lt_of_le hk hb.size) (fun e => by injection e with e; omega)).trans (hb.block k hk)⟩
def Draw3 (w : World) (e : Ending) (w' : World) : Prop := ∃ x y z : Int, e = .returned (.tuple #[.int .i64 x, .int .i64 y, .int .i64 z]) ∧ Below w.heap.size w w'
def Draw2 (w : World) (e : Ending) (w' : World) : Prop := ∃ x y : Int, e = .returned (.tuple #[.int .i64 x, .int .i64 y]) ∧ Below w.heap.size w w'
/-- What the walk is told of a slice of integers that came in. -/
def IsRow (k : IntKind) (w : World) (a : Option Addr) (len cap : Nat) (zs : List Int) : Prop :=
  (a = none ∧ len = 0 ∧ cap = 0 ∧ zs = []) ∨
  ∃ x, a = some x ∧ len ≤ cap ∧ cap ≤ maxLen ∧ zs.length = cap ∧ (∀ i, i < zs.length → w.cell? (x.add i) = some (.int k (zs.getD i 0))) ∧ ∀ n ∈ zs, (Lit.int k n).wf = true
theorem cell_some {w : World} {x : Addr} {v : Value} (h : w.cell? x = some v) : x.spot = none ∧ x.block < w.heap.size := by
  unfold World.cell? at h
  split at h
  · rename_i hh
    refine ⟨?_, (Array.getElem?_eq_some_iff.1 hh).1⟩
    split at h
    · cases h
    · rename_i hs; simpa using hs
  · cases h
theorem add_at (b off j : Nat) : (⟨b, off, none⟩ : Addr).add j = ⟨b, off + j, none⟩ := by
  unfold Addr.add
  split
  · rename_i h; simp_all
  · rfl
theorem code_of_row {w : World} {a : Option Addr} {len cap : Nat} {zs : List Int} (h : IsRow .u8 w a len cap zs) (hl : len ≤ 1099511627776) : Code w a len := by
  refine ⟨hl, ?_⟩
  by_cases h0 : len = 0
  · exact .inl h0
  · refine .inr ?_
    rcases h with ⟨_, h, _⟩ | ⟨x, rfl, hc, _, hz, hcell, hwf⟩
    · exact absurd h h0
    · have hs := cell_some (hcell 0 (by omega))
      obtain ⟨b, off, sp⟩ := x
      obtain ⟨hs1, hs2⟩ := hs
      have hs3 : sp = none := hs1
      subst hs3
      refine ⟨b, off, rfl, hs2, hs2, fun j hj => ?_⟩
      · have hj2 : j < zs.length := by omega
        have hm : zs.getD j 0 ∈ zs := by simp [List.getD, hj2]
        have hw := hwf _ hm
        have hb := bounds_u8 hw
        exact ⟨zs.getD j 0, hb.1, by omega, by rw [← add_at]; exact hcell j hj2⟩
theorem Tab.below {w w' : World} (h : Tab w) (hb : Below w.heap.size w w') : Tab w' := by
  have h0 := (cell_some (h 0 (by omega) (by omega)).1).2
  exact h.keep fun o => hb.cell (p := ⟨0, o, none⟩) h0
theorem below_step {w w1 w2 : World} (h1 : Below w.heap.size w w1) (h2 : Below w1.heap.size w1 w2) : Below w.heap.size w w2 := h1.trans (h2.mono h1.size)
end Go.Proofs.YtcenglbcibkniaaDoor
