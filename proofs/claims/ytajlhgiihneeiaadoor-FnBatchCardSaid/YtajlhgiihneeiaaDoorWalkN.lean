/-
  A drawn list of integers.
-/
import Derived.Test.YtajlhgiihneeiaaDoorWalkM
namespace Go.Proofs.YtajlhgiihneeiaaDoor
open Go.RowKit
def SizeP (w : World) (e : Ending) (w' : World) : Prop := ∃ r : Int, e = .returned (.int .i64 r) ∧ 1 ≤ r ∧ r ≤ 60 ∧ w = w'
theorem size_c (a : Option Addr) (len cap : Nat) (w : World) (hl : len ≤ 1048576) : Calls Tryd.prog 20 #[.slice a len cap, .int .i64 60] w (SizeP w) := by
  by_cases h : (60 : Int) < 2 + (len : Int) / 16
  · go_enter Tryd.func20, Tryd.ntmps20
    go_wp2
    go_ret
    exact ⟨60, rfl, by omega, by omega, rfl⟩
  · go_enter Tryd.func20, Tryd.ntmps20
    go_wp2
    go_ret
    exact ⟨_, rfl, by omega, by omega, rfl⟩
def DrawL (w : World) (e : Ending) (w' : World) : Prop := ∃ (f : Int) (a : Option Addr) (n cap : Nat) (F : Nat → Int), e = .returned (.tuple #[.int .i64 f, .slice a n cap]) ∧ n ≤ 4097 ∧ Src w' a n F ∧ Below w.heap.size w w'
/-- The state of the loop that draws the list. -/
def DrawAt (w wr : World) (B : Nat) (v : Value) (k : Nat) : Prop := (∃ F, wr.ownsRow B 3 1 v k (xsF F k)) ∧ Cur w.heap.size wr ∧ Below w.heap.size w wr ∧ B ≤ wr.heap.size
theorem xsF_more (F : Nat → Int) (k : Nat) (x : Int) : xsF F k ++ [.int .i64 x] = xsF (fun j => if j < k then F j else x) (k + 1) := by
  rw [← xsF_succ, xsF_congr (F := F) (G := fun j => if j < k then F j else x) (fun j hj => by simp [hj])]
  simp
theorem below_cur {w wr w' : World} (hb : Below w.heap.size w wr) (hg : wr.grownBy w' (some w.heap.size)) : Below w.heap.size w w' := below_of_grown hb hg
theorem draw_step {w w1 w2 : World} {B : Nat} {v v' : Value} {k : Nat} {x : Int} {F : Nat → Int} {o : Obj} (hB : w.heap.size < B) (h1b : Below w.heap.size w w1) (c1 : Cur w.heap.size w1) (hB1 : B ≤ w1.heap.size) (hown1 : w1.ownsRow B 3 1 v k (xsF F k))
    (hown' : w2.ownsRow B 3 1 v' (k + 1) (xsF F k ++ [.int .i64 x])) (hgrow : (w1.alloc o).grownBy w2 v.ownBlock) : DrawAt w w2 B v' (k + 1) := by
  have hge := own_ge hown1
  refine ⟨⟨_, by rw [xsF_more] at hown'; exact hown'⟩, (c1.alloc o).other hgrow (fun r hr => by have := hge r hr; omega), ?_, ?_⟩
  · exact (h1b.alloc h1b.size o).grown hgrow (by have := h1b.size; simp; omega) (fun r hr => by have := hge r hr; omega)
  · have := hgrow.size; simp at this; omega
theorem own_ne {wr : World} {B g : Nat} {v : Value} {k : Nat} {xs : List Value} (hB : g < B) (h : wr.ownsRow B 3 1 v k xs) : v.ownBlock = none ∨ v.ownBlock ≠ some g := by
  refine .inr fun e => ?_
  have := own_ge h g e
  omega
set_option maxRecDepth 100000 in
set_option maxHeartbeats 3200000 in
theorem drawBatch_c (a : Option Addr) (len cap : Nat) (w : World) (hl : len ≤ 1048576) (hc : Code w a len) : Calls Tryd.prog 6 #[.slice a len cap] w (DrawL w) := by
  obtain ⟨i0, hi, hz0, hz1, hz2⟩ := info_parts info3
  have HI := Lib.hid hi
  have HZ0 := Lib.hid hz0
  have HZ1 := Lib.hid hz1
  have HZ2 := Lib.hid hz2
  clear hi hz0 hz1 hz2
  go_enter Tryd.func6, Tryd.ntmps6
  go_wp2_with fail
  refine (new_c a len cap w hc).mono ?_
  rintro e w1 ⟨rfl, b1, c1⟩
  go_wp2_with fail
  refine (field_c w.heap.size w1 c1).mono ?_
  rintro e w2 ⟨f, _, rfl, g2, c2⟩
  have hB : w.heap.size < w2.heap.size := c2.lt
  have e2 := own_empty w2 (fun _ => 0)
  have b2 := below_cur b1 g2
  clear b1 c1 g2 hc
  go_wp2_with fail
  refine (size_c a len cap _ hl).mono ?_
  rintro e w' ⟨r, rfl, r0, r1, rfl⟩
  go_wp2_with fail
  refine (below_c w.heap.size r _ (c2.alloc _) (by omega) (by omega)).mono ?_
  rintro e w4 ⟨x, ⟨x0, x1⟩, rfl, g4, c4⟩
  have e4 := e2.kept g4 (own_ne hB e2)
  have b4 := below_cur (b2.alloc b2.size (.cells #[] 3)) g4
  have z4 : w2.heap.size ≤ w4.heap.size := by have := g4.size; simp at this; omega
  clear e2 b2 g4 c2
  go_wp2_with fail
  refine (once_c w.heap.size 30 w4 c4 (by omega) (by omega)).mono ?_
  rintro e w5 ⟨bb, rfl, g5, c5⟩
  have e5 := e4.kept g5 (own_ne hB e4)
  have b5 := below_cur b4 g5
  have z5 : w2.heap.size ≤ w5.heap.size := Nat.le_trans z4 g5.size
  clear e4 b4 g5 c4 z4
  cases bb
  · go_wp2_with fail
    go_loopw [6, 8] (fun v i wr => ∃ k : Nat, i = .int .i64 k ∧ (k : Int) ≤ x ∧ DrawAt w wr w2.heap.size v k) (fun _ i _ => (x - intOf i).toNat)
    case atStart => exact ⟨0, rfl, by omega, ⟨fun _ => 0, e5⟩, c5, b5, z5⟩
    case round =>
      obtain ⟨k, rfl, hk, ⟨F, hown⟩, hcur, hbel, hsz⟩ := hrel
      by_cases hlt : (k : Int) < x
      · go_wp2_with fail
        refine (any_c w.heap.size f wr hcur).mono ?_
        rintro e w9 ⟨x9, _, rfl, g9, c9⟩
        have hown9 := hown.kept g9 (own_ne hB hown)
        have hb9 := below_cur hbel g9
        have hs9 : w2.heap.size ≤ w9.heap.size := Nat.le_trans hsz g9.size
        clear hown hcur hbel g9
        go_wp2_with (at_builtin; refine wpList_append_own _ rfl _ _ 24 rfl w2.heap.size 3 i0 (.int .i64 0) 1 8 Tryd.underlying24 HI.out HZ0.out HZ1.out HZ2.out rfl (by decide) _ _ _ rfl (hown9.alloc _) ⟨w9.heap.size, 0, none⟩ 1 1 [.int .i64 x9] rfl rfl ?c1 ?c2 ?c3 ?c4 ?c5 ?_)
        case c1 => exact cell_one_new _ _ _
        case c2 => intro u hu; simp at hu; subst hu; rfl
        case c3 => unfold maxLen; omega
        case c4 => omega
        case c5 => simp; omega
        intro v' w10 hown' hgrow _
        have hst := draw_step hB hb9 c9 hs9 hown9 hown' hgrow
        clear hgrow hown' hown9 c9 hb9
        go_wp2
        go_roundw
        case rel => exact ⟨k + 1, by go_num, by omega, hst⟩
        case measure => simp [intOf]; omega
      · have hd : decide ((k : Int) < x) = false := by simpa using hlt
        obtain ⟨a', cap', hv, hsrc⟩ := src_of_owns hown
        have HV := Lib.hid hv
        clear hv
        go_wp2
        go_ret2
        exact ⟨f, a', k, cap', F, by rw [← HV.out]; rfl, by omega, hsrc, hbel⟩
  · go_wp2_with fail
    refine (below_c w.heap.size 2 w5 c5 (by omega) (by omega)).mono ?_
    rintro e w6 ⟨y, ⟨y0, y1⟩, rfl, g6, c6⟩
    have e6 := e5.kept g6 (own_ne hB e5)
    have b6 := below_cur b5 g6
    have z6 : w2.heap.size ≤ w6.heap.size := Nat.le_trans z5 g6.size
    clear e5 b5 g6 c5 z5
    go_wp2_with fail
    go_loopw [6, 8] (fun v i wr => ∃ k : Nat, i = .int .i64 k ∧ (k : Int) ≤ (4096 + y) ∧ DrawAt w wr w2.heap.size v k) (fun _ i _ => ((4096 + y) - intOf i).toNat)
    case atStart => exact ⟨0, rfl, by omega, ⟨fun _ => 0, e6⟩, c6, b6, z6⟩
    case round =>
      obtain ⟨k, rfl, hk, ⟨F, hown⟩, hcur, hbel, hsz⟩ := hrel
      by_cases hlt : (k : Int) < (4096 + y)
      · go_wp2_with fail
        refine (any_c w.heap.size f wr hcur).mono ?_
        rintro e w9 ⟨x9, _, rfl, g9, c9⟩
        have hown9 := hown.kept g9 (own_ne hB hown)
        have hb9 := below_cur hbel g9
        have hs9 : w2.heap.size ≤ w9.heap.size := Nat.le_trans hsz g9.size
        clear hown hcur hbel g9
        go_wp2_with (at_builtin; refine wpList_append_own _ rfl _ _ 24 rfl w2.heap.size 3 i0 (.int .i64 0) 1 8 Tryd.underlying24 HI.out HZ0.out HZ1.out HZ2.out rfl (by decide) _ _ _ rfl (hown9.alloc _) ⟨w9.heap.size, 0, none⟩ 1 1 [.int .i64 x9] rfl rfl ?d1 ?d2 ?d3 ?d4 ?d5 ?_)
        case d1 => exact cell_one_new _ _ _
        case d2 => intro u hu; simp at hu; subst hu; rfl
        case d3 => unfold maxLen; omega
        case d4 => omega
        case d5 => simp; omega
        intro v' w10 hown' hgrow _
        have hst := draw_step hB hb9 c9 hs9 hown9 hown' hgrow
        clear hgrow hown' hown9 c9 hb9
        go_wp2
        go_roundw
        case rel => exact ⟨k + 1, by go_num, by omega, hst⟩
        case measure => simp [intOf]; omega
      · have hd : decide ((k : Int) < (4096 + y)) = false := by simpa using hlt
        obtain ⟨a', cap', hv, hsrc⟩ := src_of_owns hown
        have HV := Lib.hid hv
        clear hv
        go_wp2
        go_ret2
        exact ⟨f, a', k, cap', F, by rw [← HV.out]; rfl, by omega, hsrc, hbel⟩
end Go.Proofs.YtajlhgiihneeiaaDoor
