/-
  The list of roots: the program's iterator over the powers of the root, and the loop over it.
-/
import Derived.Test.YtjfbhfloojkphaaDoorWalkR
import Derived.Test.YtjfbhfloojkphaaDoorWalkM
import Derived.RangeFuncBox
import Derived.RangeFuncLeaves
import Derived.RangeFuncCalls
import Derived.Shelf.Abstract
import Derived.OwnWalkIn
import Derived.TacticsInMore
import Derived.LoopNIn
import Derived.LoopIn
import Derived.StillTailTactics
import Derived.Maps.AppendAt
namespace Go.Proofs.YtjfbhfloojkphaaDoor
open Go.RowKit Go.Shelf
attribute [local go_sem] Oper.semAt_some
/-- The first c powers of r. -/
def pws (f r : Int) (c : Nat) : List Int := (List.range c).map fun (j : Nat) => PW (P f) r (j : Int)
theorem pws_len (f r : Int) (c : Nat) : (pws f r c).length = c := by simp [pws]
theorem pws_succ (f r : Int) (c : Nat) : pws f r (c + 1) = pws f r c ++ [PW (P f) r c] := by simp [pws, List.range_succ]
theorem pws_pre (f r : Int) {j c : Nat} (h : j ≤ c) : pws f r j <+: pws f r c := by
  refine ⟨((List.range c).drop j).map fun (j : Nat) => PW (P f) r (j : Int), ?_⟩
  unfold pws
  rw [← List.map_append]
  congr 1
  conv => rhs; rw [← List.take_append_drop j (List.range c)]
  rw [List.take_range, Nat.min_eq_left h]
/-- What a round keeps: whatever lay below n₀, and the two boxes that the iterator reads again. -/
def KeepsBoxes (n₀ Bn Ba : Nat) (W W' : World) : Prop := Below n₀ W W' ∧ W'.heap[Bn]? = W.heap[Bn]? ∧ W'.heap[Ba]? = W.heap[Ba]?
theorem cell_same {W W' : World} {B : Nat} (h : W'.heap[B]? = W.heap[B]?) (o : Nat) : W'.cell? ⟨B, o, none⟩ = W.cell? ⟨B, o, none⟩ := by
  unfold World.cell?
  simp only [h]
theorem Tab.from {n₀ : Nat} {w w' : World} (h : Tab w) (h0 : 0 < n₀) (hb : Below n₀ w w') : Tab w' := h.keep fun o => hb.cell (p := ⟨0, o, none⟩) h0
set_option maxRecDepth 100000 in
set_option maxHeartbeats 1000000 in
theorem powers1_in (n : Nat) (hn : 1 ≤ n) (l Bc Bn Ba n₀ : Nat) (f r : Int) (c : Nat) (h0 : 0 ≤ f) (h8 : f ≤ 8) (r0 : 0 ≤ r) (r1 : r < P f) (c9 : c ≤ 1048576) (hn0 : 0 < n₀) (J Jx : List Int → World → Prop)
    (hY : ∀ pre x W, J pre W → pre.length < c → YieldAt Fence.wide (n - 1) Tryd.prog l #[.int .i64 x] W fun e W' =>
      (e = .returned (.bool true) ∧ J (pre ++ [x]) W' ∧ KeepsBoxes n₀ Bn Ba W W') ∨ (e = .returned (.bool false) ∧ Jx (pre ++ [x]) W'))
    (W : World) (ht : Tab W) (hc : W.cell? ⟨Bc, 0, none⟩ = some (.int .i64 c)) (hf : W.cell? ⟨Bn, 0, none⟩ = some (.int .i64 f)) (hr : W.cell? ⟨Ba, 0, none⟩ = some (.int .i64 r)) (hj : J [] W) :
    CallsIn Fence.wide n Tryd.prog 45 #[.func (.yield l) #[] #[], .pointer (some ⟨Bc, 0, none⟩), .pointer (some ⟨Bn, 0, none⟩), .pointer (some ⟨Ba, 0, none⟩)] W fun e W' => (∃ v, e = .returned v) ∧
      ((∃ ys, ys = pws f r c ∧ J ys W') ∨ (∃ pre, pre <+: pws f r c ∧ Jx pre W')) := by
  have hp := P_bd h0 h8
  refine callsIn_of_wp Tryd.func45 rfl trivial ?_ rfl
  simp only [Tryd.ntmps45, List.size_toArray, List.length_cons, List.length_nil, Nat.reduceAdd, Nat.reduceSub, Array.replicate_succ, Array.replicate_zero, List.push_toArray, List.append_toArray, List.nil_append, List.cons_append]
  gi_wp2
  gi_loopw [5, 7] (fun x i wr => ∃ j : Nat, i = .int .i64 j ∧ j ≤ c ∧ x = .int .i64 (PW (P f) r j) ∧ J (pws f r j) wr ∧ Tab wr ∧ wr.cell? ⟨Bn, 0, none⟩ = some (.int .i64 f) ∧ wr.cell? ⟨Ba, 0, none⟩ = some (.int .i64 r)) (fun _ i _ => c - (intOf i).toNat)
  case atStart =>
    exact ⟨0, rfl, Nat.zero_le _, by rw [show ((0 : Nat) : Int) = 0 from rfl, PW_zero h0 h8], hj, ht, hf, hr⟩
  case round =>
    obtain ⟨j, rfl, hjc, rfl, hJ, htr, hfr, hrr⟩ := hrel
    by_cases hlt : j < c
    · obtain ⟨fn, tmps, assign, body, hy, hR⟩ := hY (pws f r j) (PW (P f) r j) wr hJ (by rw [pws_len]; exact hlt)
      have bj := PW_bd (m := P f) (x := r) (e := (j : Int)) (by omega)
      have HS := Lib.hid (PW_succ h0 h8 r0 j)
      gi_wp2
      refine hR.mono ?_
      rintro e W3 (⟨rfl, hJ3, hk3⟩ | ⟨rfl, hJx3⟩)
      · have ht3 := htr.from hn0 hk3.1
        have hf3 : W3.cell? ⟨Bn, 0, none⟩ = some (.int .i64 f) := (cell_same hk3.2.1 0).trans hfr
        have hr3 : W3.cell? ⟨Ba, 0, none⟩ = some (.int .i64 r) := (cell_same hk3.2.2 0).trans hrr
        rw [← pws_succ] at hJ3
        clear hR hy hk3
        gi_wp2_with (refine ⟨trivial, ?_⟩; gi_at_call 46; refine (callsIn_wide.2 (mul_c f (PW (P f) r j) r W3 ht3 h0 h8 bj.1 bj.2 r0 r1)).mono ?_; rintro e w' ⟨rfl, rfl⟩)
        go_roundw
        case rel => exact ⟨j + 1, by go_num, by omega, vint HS.out, hJ3, ht3, hf3, hr3⟩
        case measure => simp [intOf]; omega
      · rw [← pws_succ] at hJx3
        gi_wp2
        refine bodyPost_ret (results_none rfl _ _ _) rfl ?_
        exact ⟨⟨_, rfl⟩, .inr ⟨_, pws_pre f r (by omega), hJx3⟩⟩
    · have hd : decide (j < c) = false := by simpa using hlt
      obtain rfl : j = c := by omega
      gi_wp2
      go_end0
      exact ⟨⟨_, rfl⟩, .inl ⟨_, rfl, hJ⟩⟩
theorem powers_stops (n : Nat) (hn : 1 ≤ n) (Bc Bn Ba n₀ : Nat) (f r : Int) (c : Nat) (h0 : 0 ≤ f) (h8 : f ≤ 8) (r0 : 0 ≤ r) (r1 : r < P f) (c9 : c ≤ 1048576) (hn0 : 0 < n₀) (w : World) (hsz : 0 < w.heap.size) (ht : Tab w)
    (hBc : Bc < w.heap.size) (hBn : Bn < w.heap.size) (hBa : Ba < w.heap.size) (hc : w.cell? ⟨Bc, 0, none⟩ = some (.int .i64 c)) (hf : w.cell? ⟨Bn, 0, none⟩ = some (.int .i64 f)) (hr : w.cell? ⟨Ba, 0, none⟩ = some (.int .i64 r)) :
    SeqStopsK Fence.wide n Tryd.prog 45 #[.pointer (some ⟨Bc, 0, none⟩), .pointer (some ⟨Bn, 0, none⟩), .pointer (some ⟨Ba, 0, none⟩)] (fun x : Int => #[Value.int .i64 x]) (KeepsBoxes n₀ Bn Ba) (fun ys => ys = pws f r c) (fun pre => pre <+: pws f r c) c w :=
  fun l J Jx W hW _ _ hY hj => powers1_in n hn l Bc Bn Ba n₀ f r c h0 h8 r0 r1 c9 hn0 J Jx hY W (ht.from hsz hW)
    ((hW.cell (p := ⟨Bc, 0, none⟩) hBc).trans hc) ((hW.cell (p := ⟨Bn, 0, none⟩) hBn).trans hf) ((hW.cell (p := ⟨Ba, 0, none⟩) hBa).trans hr) hj
theorem powers_c (f r x : Int) (w : World) : Calls Tryd.prog 35 #[.int .i64 f, .int .i64 r, .int .i64 x] w fun e w' =>
    e = .returned (.func (.func 45) #[] #[.pointer (some ⟨w.heap.size + 2, 0, none⟩), .pointer (some ⟨w.heap.size, 0, none⟩), .pointer (some ⟨w.heap.size + 1, 0, none⟩)]) ∧
    w' = ((w.alloc (.cells #[.int .i64 f] 41)).alloc (.cells #[.int .i64 r] 3)).alloc (.cells #[.int .i64 x] 3) := by
  go_enter Tryd.func35, Tryd.ntmps35
  go_wp2
  go_ret
  exact ⟨rfl, rfl⟩
theorem made_cap (n : Nat) (hn : n ≤ 1048576) (w : World) : (Instr.makeSlice 27 (.int .i64 0) (.int .i64 (n : Int))).run Tryd.prog w = .ok (.slice (some ⟨w.heap.size, 0, none⟩) 0 n) (w.alloc (.cells (madeCells #[.int .i64 0] n) 3)) := by
  obtain ⟨i, hi, hzz⟩ := Option.map_eq_some_iff.1 info3
  simp only [Prod.mk.injEq] at hzz
  obtain ⟨hz, hs, hb⟩ := hzz
  have hr := run_make (P := Tryd.prog) w 27 3 i (.int .i64 0) Tryd.underlying27 hi hz .i64 .i64 0 n (Int.le_refl _) (by omega) (by rw [hb]; omega) (by omega)
  simp only [Int.toNat_natCast, hs, Nat.mul_one] at hr
  exact hr
theorem own_of_owns {w' : World} {base g n : Nat} {F : Nat → Int} (h : w'.ownsRow base 3 1 (.slice (some ⟨g, 0, none⟩) n n) n (xsF F n)) : Own w' g n F := by
  obtain ⟨hl, h⟩ := h
  rcases h with ⟨hv, _⟩ | ⟨g', cap, cur, hv, hg, hh, hc, hm, hs, ht⟩
  · cases hv
  · cases hv
    refine ⟨cur, hh, by omega, fun j hj => ?_⟩
    have hx : (xsF F n)[j]? = some (.int .i64 (F j)) := by simp [xsF, hj]
    rw [← ht, List.getElem?_take_of_lt (by omega)] at hx
    simpa using hx
theorem block_same {W w1 : World} {tmp : Obj} {g Bl B : Nat} {v : Value} (hgrow : (W.alloc tmp).grownBy w1 (some g)) (h1 : B < W.heap.size) (h2 : B ≠ g) (h3 : B ≠ Bl) : (w1.setCell ⟨Bl, 0, none⟩ v).heap[B]? = W.heap[B]? :=
  (Below.heap_setCell w1 ⟨Bl, 0, none⟩ v B (fun e => h3 e)).trans ((hgrow.block B (by simp; omega) (fun e => by injection e with e; exact h2 e)).trans (Below.heap_alloc W tmp B h1))
theorem pws_roots (f k : Int) (n : Nat) : (pws f (mRoot f k) n).map (Value.int .i64) = xsF (rootsF f k) n := by
  simp [pws, xsF, rootsF]
theorem keepsBoxes_b {w WL : World} (hz : w.heap.size + 5 ≤ WL.heap.size) (W : World) (l : Nat) (o o' : Obj) (hl : WL.heap.size ≤ l) (ho : W.heap[l]? = some o) (hc : o.isCells = false) (hw : o.isWalk = false) :
    KeepsBoxes w.heap.size (w.heap.size + 2) (w.heap.size + 2 + 1) W (W.putObj l o') :=
  ⟨belowK_b (w := w) (Nat.le_refl _) W l o o' (by omega) ho hc hw, World.putObj_heap_other (by omega), World.putObj_heap_other (by omega)⟩
set_option maxRecDepth 100000 in
set_option maxHeartbeats 2000000 in
theorem iRoots_on (f : Int) (k n : Nat) (w : World) (ht : Tab w) (h : hasK f k) (k9 : k ≤ 9) (hn : n = 2 ^ k) : Calls Tryd.prog 11 #[.int .i64 f, .int .i64 k] w (CopyP w n (rootsF f k)) := by
  have n9 : n ≤ 512 := by
    have : 2 ^ k ≤ 2 ^ 9 := Nat.pow_le_pow_right (by omega) k9
    omega
  have HN : Hid (wrap64 (2 ^ k) = (n : Int)) := Lib.hid (by
    rw [hn]
    have := shl_at (k := (k : Int)) (by omega) (by omega)
    rw [Int.toNat_natCast] at this
    rw [this, two_nat (by omega), Int.toNat_natCast])
  have hmk : ∀ w, (Instr.makeSlice 27 (.int .i64 0) (.int .i64 (wrap64 (2 ^ k)))).run Tryd.prog w = .ok (.slice (some ⟨w.heap.size, 0, none⟩) 0 n) (w.alloc (.cells (madeCells #[.int .i64 0] n) 3)) := fun w => by
    rw [HN.out]; exact made_cap n (by omega) w
  clear hn
  have HR := Lib.hid h
  refine (callsIn_wide (n := 6)).1 ?_
  refine callsIn_of_wp_marks Tryd.func11 rfl trivial ?_ rfl
  simp only [Tryd.ntmps11, List.size_toArray, List.length_cons, List.length_nil, Nat.reduceAdd, Nat.reduceSub, Array.replicate_succ, Array.replicate_zero, List.push_toArray, List.append_toArray, List.nil_append, List.cons_append]
  refine wpIn_wide.2 ?_
  go_wp2_with fail
  refine (hasRoots_yes f k w ht h (by omega)).mono ?_
  rintro e w' ⟨rfl, rfl⟩
  go_wp2
  obtain ⟨W0, hW0⟩ : ∃ W0, (w.alloc (.cells (madeCells #[.int .i64 0] n) 3)).alloc (.cells #[.slice (some ⟨w.heap.size, 0, none⟩) 0 n] 27) = W0 := ⟨_, rfl⟩
  have z0 : W0.heap.size = w.heap.size + 2 := by rw [← hW0]; simp
  have x0 : Boxed W0 (w.heap.size + 1) 27 (.slice (some ⟨w.heap.size, 0, none⟩) 0 n) := by
    rw [← hW0]
    have := Boxed.new (w.alloc (.cells (madeCells #[.int .i64 0] n) 3)) 27 (.slice (some ⟨w.heap.size, 0, none⟩) 0 n)
    rwa [World.size_alloc] at this
  have o0 : W0.ownsRow w.heap.size 3 1 (.slice (some ⟨w.heap.size, 0, none⟩) 0 n) 0 [] := by
    rw [← hW0]
    exact (World.ownsRow_made w (madeCells #[.int .i64 0] n) n (Nat.le_refl _) (by unfold maxLen; omega) (by rw [size_madeCells]; omega)).alloc _
  have b0 : Below w.heap.size w W0 := by rw [← hW0]; exact ((Below.refl _ _).alloc (Nat.le_refl _) _).alloc (by simp) _
  have t0 : Tab W0 := ht.below b0
  rw [hW0]
  clear hW0 hmk
  refine wp_region_still_tail 6 (by kernel_rfl) (by kernel_rfl) ?_
  simp only [List.take_succ_cons, List.take_zero, List.drop_succ_cons, List.drop_zero]
  still_step
  still_step
  still_step
  still_call ((rootk_c f k W0.drew (t0.keep fun _ => rfl) HR.out).mono fun _ _ h => ⟨h.1, h.2.symm⟩)
  still_step
  still_step
  refine wpStill_nil ?_
  change wpList _ _ _ _ _ W0.drew
  obtain ⟨W1, hW1⟩ : ∃ W1, W0.drew = W1 := ⟨_, rfl⟩
  have z1 : W1.heap.size = w.heap.size + 2 := by rw [← hW1]; exact z0
  have x1 : Boxed W1 (w.heap.size + 1) 27 (.slice (some ⟨w.heap.size, 0, none⟩) 0 n) := by rw [← hW1]; exact x0
  have o1 : W1.ownsRow w.heap.size 3 1 (.slice (some ⟨w.heap.size, 0, none⟩) 0 n) 0 [] := by rw [← hW1]; exact o0
  have b1 : Below w.heap.size w W1 := by rw [← hW1]; exact ⟨b0.os, b0.tape, b0.output, b0.size, b0.block⟩
  have t1 : Tab W1 := ht.below b1
  rw [hW1]
  clear hW1 z0 x0 o0 b0 t0
  go_wp2_with fail
  refine (powers_c f (mRoot f k) (wrap64 (2 ^ k)) W1).mono ?_
  rintro e w' ⟨rfl, rfl⟩
  go_wp2
  obtain ⟨WL, hWL⟩ : ∃ WL, ((W1.alloc (.cells #[.int .i64 f] 41)).alloc (.cells #[.int .i64 (mRoot f k)] 3)).alloc (.cells #[.int .i64 (wrap64 (2 ^ k))] 3) = WL := ⟨_, rfl⟩
  have zL : WL.heap.size = w.heap.size + 5 := by rw [← hWL]; simp; omega
  have xL : Boxed WL (w.heap.size + 1) 27 (.slice (some ⟨w.heap.size, 0, none⟩) 0 n) := by rw [← hWL]; exact ((x1.alloc _).alloc _).alloc _
  have oL : WL.ownsRow w.heap.size 3 1 (.slice (some ⟨w.heap.size, 0, none⟩) 0 n) 0 [] := by rw [← hWL]; exact ((o1.alloc _).alloc _).alloc _
  have nL : Boxed WL (w.heap.size + 2) 41 (.int .i64 f) := by
    rw [← hWL, ← z1]; exact ((Boxed.new W1 _ _).alloc _).alloc _
  have aL : Boxed WL (w.heap.size + 2 + 1) 3 (.int .i64 (mRoot f k)) := by
    have := (Boxed.new (W1.alloc (.cells #[.int .i64 f] 41)) 3 (.int .i64 (mRoot f k))).alloc (.cells #[.int .i64 (wrap64 (2 ^ k))] 3)
    rw [World.size_alloc, z1] at this
    rw [← hWL]; exact this
  have cL : Boxed WL (w.heap.size + 2 + 2) 3 (.int .i64 n) := by
    have := Boxed.new ((W1.alloc (.cells #[.int .i64 f] 41)).alloc (.cells #[.int .i64 (mRoot f k)] 3)) 3 (.int .i64 (wrap64 (2 ^ k)))
    rw [World.size_alloc, World.size_alloc, z1] at this
    rw [← hWL, ← HN.out]; exact this
  have bL : Below w.heap.size w WL := by rw [← hWL]; exact ((b1.alloc (by omega) _).alloc (by simp; omega) _).alloc (by simp; omega) _
  have tL : Tab WL := ht.below bL
  rw [hWL]
  clear hWL z1 x1 o1 b1 t1
  have rb := root_bd HR.out
  have f0 := HR.out.1.1
  have f8 := HR.out.1.2
  have w0 : 0 < w.heap.size := (cell_some (ht 0 (by omega) (by omega)).1).2
  obtain ⟨i0, hi, hz0, hz1, hz2⟩ := info_parts info3
  refine (wpIn_wide (n := 6)).1 ?_
  refine wpIn_rangeFunc_ownG (F := Fence.wide) (n := 6) rfl (by omega) (gf := 45) (lb := #[.pointer (some ⟨w.heap.size + 2 + 2, 0, none⟩), .pointer (some ⟨w.heap.size + 2, 0, none⟩), .pointer (some ⟨w.heap.size + 2 + 1, 0, none⟩)]) rfl trivial (enters_of Tryd.func45 (by kernel_rfl) rfl)
    (powers_stops 5 (by omega) (w.heap.size + 2 + 2) (w.heap.size + 2) (w.heap.size + 2 + 1) w.heap.size f (mRoot f k) n f0 f8 (by omega) rb.2 (by omega) w0 WL (by omega) tL (by omega) (by omega) (by omega) cL.cell nL.cell aL.cell)
    (fun h k => ⟨h.1.trans k.1, k.2.1.trans h.2.1, k.2.2.trans h.2.2⟩) (fun W l o o' hl ho hc hw => keepsBoxes_b (by omega) W l o o' hl ho hc hw) (Below.refl _ _) (fun _ => rfl)
    (fun pre W => (∃ v, Boxed W (w.heap.size + 1) 27 v ∧ W.ownsRow w.heap.size 3 1 v pre.length (pre.map (Value.int .i64)) ∧ v = .slice (some ⟨w.heap.size, 0, none⟩) pre.length n) ∧ Below w.heap.size w W ∧ w.heap.size + 5 ≤ W.heap.size)
    (fun _ _ _ => False)
    (OwnFrom.and (Own.from (holdsRow_own w.heap.size (w.heap.size + 1) 27 3 1 (fun (pre : List Int) => pre.length) (fun (pre : List Int) => pre.map (Value.int .i64)) (fun (pre : List Int) v => v = .slice (some ⟨w.heap.size, 0, none⟩) pre.length n)) _) (OwnFrom.and (ownFrom_below (Nat.le_refl _) (by omega)) (fun s A B row hs hg hr => Nat.le_trans hs hg.size)))
    (fun _ _ _ _ _ hs _ _ => hs)
    ⟨⟨_, xL, oL, rfl⟩, bL, by omega⟩
    (fun x => { tmps := #[.int .i64 f, .int .i64 k, undef, undef, .slice none 0 0, .int .i64 f, .pointer (some ⟨w.heap.size + 1, 0, none⟩), .int .i64 x, .int .i64 f, .int .i64 k, .bool true, .bool false, .int .i64 f, .int .i64 k, .int .i64 (wrap64 (2 ^ k)), .slice (some ⟨w.heap.size, 0, none⟩) 0 n, .int .i64 f, .int .i64 f, .int .i64 k, .int .i64 (mRoot f k), .int .i64 k, .int .i64 (wrap64 (2 ^ k)), .func (.func 45) #[] #[.pointer (some ⟨w.heap.size + 2 + 2, 0, none⟩), .pointer (some ⟨w.heap.size + 2, 0, none⟩), .pointer (some ⟨w.heap.size + 2 + 1, 0, none⟩)], .int .i64 x, undef, undef, undef, undef, undef], defers := [] }) ?assign ?body ?done ?stop
  case assign =>
    intro l x W K hK
    gi_wp2
    exact hK
  case body =>
    rintro l pre x W ⟨⟨v, hv, hrow, rfl⟩, hB, hz⟩ hlt
    have hc := hv.cell
    gi_wp2_with (gi_at_builtin; refine wpListIn_append_fits _ rfl _ _ 27 rfl w.heap.size 3 i0 1 Tryd.underlying27 hi hz1 w.heap.size pre.length n _ rfl (hrow.alloc _) ⟨W.heap.size, 0, none⟩ 1 1 [.int .i64 x] rfl rfl (cell_one_new _ _ _) (by simp [Value.oneCell']) (by omega) ?_; intro w1 hown' hgrow; obtain ⟨hv1, hv2, hr2, hk2, hb2⟩ := hv.appended (by decide) hrow hB.size (by omega) hown' hgrow; have hc1 := hv1.cell; have hf1 := hv1.frozen)
    exact ⟨hk2.from _, ⟨hb2, block_same hgrow (by omega) (by omega) (by omega), block_same hgrow (by omega) (by omega) (by omega)⟩, ⟨_, hv2, by simpa using hr2, by simp⟩, hB.trans hb2, Nat.le_trans hz hk2.size⟩
  case done =>
    rintro D ys W hD rfl ⟨⟨v, hv, hrow, rfl⟩, hB, hz⟩ hK
    rw [pws_len] at hv hrow
    rw [pws_roots] at hrow
    have hc := hv.cell
    go_wp2
    refine ⟨by simp, .inl ⟨_, _, rfl, run_takeDeferred hK, ?_⟩⟩
    exact ⟨_, results_tmp rfl _ _ _, rfl, own_of_owns (ownsRow_putObj hrow _ hK rfl), hB.trans (belowK_b (w := w) (Nat.le_refl _) W D _ _ (by omega) hK rfl rfl)⟩
  case stop =>
    rintro D c pre W _ _ h _
    exact h.elim
theorem iRoots_off (f k : Int) (w : World) (ht : Tab w) (h : ¬ (hasK f k ∧ k ≤ 9)) : Calls Tryd.prog 11 #[.int .i64 f, .int .i64 k] w fun e w' => e = .returned (.slice none 0 0) ∧ w = w' := by
  go_enter Tryd.func11, Tryd.ntmps11
  go_wp2_with fail
  refine (hasRoots_no f k w ht h).mono ?_
  rintro e w' ⟨rfl, rfl⟩
  go_wp2
  go_ret
  exact ⟨rfl, rfl⟩
set_option maxRecDepth 100000 in
set_option maxHeartbeats 1600000 in
theorem sRoots_on (f : Int) (k n : Nat) (w : World) (h : hasK f k) (k9 : k ≤ 9) (hn : n = 2 ^ k) : Calls Tryd.prog 19 #[.int .i64 f, .int .i64 k] w (ListP w n (rootsF f k)) := by
  have n9 : n ≤ 512 := by
    have : 2 ^ k ≤ 2 ^ 9 := Nat.pow_le_pow_right (by omega) k9
    omega
  have et : two (k : Int) = n := by rw [two_nat (by omega), hn, Int.toNat_natCast]
  have ek : wrap64 (2 ^ k) = (n : Int) := by
    have := shl_at (k := (k : Int)) (by omega) (by omega)
    rw [Int.toNat_natCast] at this
    rw [this, et]
  have HW := Lib.hid (fun (j : Nat) (hj : j < n) => power_roots h (j := j) (by rw [et]; omega))
  have rb := root_bd h
  have r0 : ¬ mRoot f k < 0 := by omega
  have kI : (k : Int) ≤ 9 := by omega
  obtain ⟨i0, hi, hz0, hz1, hz2⟩ := info_parts info3
  have HI := Lib.hid hi
  have HZ0 := Lib.hid hz0
  have HZ1 := Lib.hid hz1
  have HZ2 := Lib.hid hz2
  clear hi hz0 hz1 hz2 hn et
  go_enter Tryd.func19, Tryd.ntmps19
  go_wp2_with fail
  refine (sRootOf f k _).mono ?_
  rintro e w' ⟨rfl, rfl⟩
  go_wp2_with fail
  go_loopw [5, 7] (fun v i wr => ∃ j : Nat, i = .int .i64 j ∧ j ≤ n ∧ wr.ownsRow w.heap.size 3 1 v j (xsF (rootsF f k) j) ∧ Below w.heap.size w wr) (fun _ i _ => n - (intOf i).toNat)
  case atStart => exact ⟨0, rfl, Nat.zero_le _, own_empty w _, (Below.refl _ _).alloc (Nat.le_refl _) _⟩
  case round =>
    obtain ⟨j, rfl, hj, hown, hnx⟩ := hrel
    by_cases h1 : j < n
    · have hd : decide ((j : Int) < n) = true := by simpa using h1
      have hs := hnx.size
      have HV := Lib.hid (HW.out j h1)
      go_wp2_with fail
      refine (sPower f (mRoot f k) j wr).mono ?_
      rintro e w' ⟨rfl, rfl⟩
      rw [HV.out]
      go_wp2_with (at_builtin; refine wpList_append_own _ rfl _ _ 27 rfl w.heap.size 3 i0 (.int .i64 0) 1 8 Tryd.underlying27 HI.out HZ0.out HZ1.out HZ2.out rfl (by decide) _ _ _ rfl (hown.alloc _) ⟨wr.heap.size, 0, none⟩ 1 1 [.int .i64 (rootsF f k j)] rfl rfl ?c1 ?c2 ?c3 ?c4 ?c5 ?_)
      case c1 => exact cell_one_new _ _ _
      case c2 => intro u hu; simp at hu; subst hu; rfl
      case c3 => unfold maxLen; omega
      case c4 => omega
      case c5 => simp; omega
      intro v' w1 hown' hgrow _
      have hbel : Below w.heap.size w w1 := (hnx.alloc hs _).grown hgrow (by simp; omega) (own_ge hown)
      rw [xsF_succ (rootsF f k)] at hown'
      clear hgrow hown
      go_wp2
      go_roundw
      case rel => exact ⟨j + 1, by go_num, by omega, hown', hbel⟩
      case measure => simp [intOf]; omega
    · have hd : decide ((j : Int) < n) = false := by simpa using h1
      obtain rfl : j = n := by omega
      obtain ⟨a', cap', hv, hsrc⟩ := src_of_owns hown
      have HV := Lib.hid hv
      clear hv
      go_wp2
      go_ret
      exact ⟨a', cap', by rw [← HV.out]; rfl, hsrc, hnx⟩
theorem sRoots_off (f k : Int) (w : World) (h : ¬ (hasK f k ∧ k ≤ 9)) : Calls Tryd.prog 19 #[.int .i64 f, .int .i64 k] w fun e w' => e = .returned (.slice none 0 0) ∧ Below w.heap.size w w' := by
  by_cases hk : hasK f k
  · have k9 : ¬ k ≤ 9 := fun e => h ⟨hk, e⟩
    have rb := root_bd hk
    have r0 : ¬ mRoot f k < 0 := by omega
    go_enter Tryd.func19, Tryd.ntmps19
    go_wp2_with fail
    refine (sRootOf f k _).mono ?_
    rintro e w' ⟨rfl, rfl⟩
    go_wp2
    go_ret
    exact ⟨rfl, (Below.refl _ _).alloc (Nat.le_refl _) _⟩
  · have HR := Lib.hid (mRoot_off hk)
    clear h hk
    go_enter Tryd.func19, Tryd.ntmps19
    go_wp2_with fail
    refine (sRootOf f k _).mono ?_
    rintro e w' ⟨rfl, rfl⟩
    rw [HR.out]
    go_wp2
    go_ret
    exact ⟨rfl, (Below.refl _ _).alloc (Nat.le_refl _) _⟩
end Go.Proofs.YtjfbhfloojkphaaDoor
