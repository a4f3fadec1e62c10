/-
  What the drawn laws of chapter 3 draw.
-/
import Derived.Test.YtcenglbcibkniaaDoorWalkZB
import Derived.Test.YtcenglbcibkniaaDoorNumV
namespace Go.Proofs.YtcenglbcibkniaaDoor
open Go.RowKit
theorem drawPolyI_c (g : Nat) (f x : Int) (w : World) (hc : Cur g w) (x0 : 0 ≤ x) (x1 : x ≤ 4096) : Calls Tryd.prog 44 #[.pointer (some ⟨g, 0, none⟩), .int .i64 f, .int .i64 x] w (ZPol g w x.toNat) := by
  have h := drawPoly_c g f x.toNat w hc (by omega)
  rwa [Int.toNat_of_nonneg x0] at h
def Draw2L (N : Nat) (w : World) (e : Ending) (w' : World) : Prop := ∃ (f : Int) (a : Option Addr) (l : List Int) (cap : Nat) (a2 : Option Addr) (m : List Int) (cap2 : Nat),
  e = .returned (.tuple #[.int .i64 f, .slice a l.length cap, .slice a2 m.length cap2]) ∧ l.length ≤ N ∧ m.length ≤ N ∧ Src w' a l.length (lf l) ∧ Src w' a2 m.length (lf m) ∧ Below w.heap.size w w'
set_option maxRecDepth 100000 in
set_option maxHeartbeats 3200000 in
theorem drawTwo_c (a : Option Addr) (len cap : Nat) (most : Int) (w : World) (hl : len ≤ 1048576) (hc : Code w a len) (m0 : 1 ≤ most) (m1 : most ≤ 1000) : Calls Tryd.prog 29 #[.slice a len cap, .int .i64 most] w (Draw2L 1048576 w) := by
  go_enter Tryd.func29, Tryd.ntmps29
  go_wp2_with fail
  refine (new_c a len cap w hc).mono ?_
  rintro e w1 ⟨rfl, b1, c1⟩
  go_wp2_with fail
  refine (field_c w.heap.size w1 c1).mono ?_
  rintro e w2 ⟨f, _, rfl, g2, c2⟩
  go_wp2_with fail
  refine (sizeM_c a len cap most w2 hl m0 m1).mono ?_
  rintro e w' ⟨r, rfl, r0, r1, rfl⟩
  go_wp2_with fail
  refine (below_c w.heap.size r w2 c2 (by omega) (by omega)).mono ?_
  rintro e w3 ⟨x, ⟨x0, x1⟩, rfl, g3, c3⟩
  have b3 := below_of_grown b1 (g2.trans g3)
  clear b1 g2 g3 c1 c2 hc
  go_wp2_with fail
  refine (drawPolyI_c w.heap.size f x w3 c3 x0 (by omega)).mono ?_
  rintro e w4 ⟨l, a4, cap4, rfl, hl4, _, s4, c4, g4⟩
  have b4 := below_of_grown b3 g4
  have HS4 := Lib.hid s4
  have hl4' : l.length ≤ 4096 := by omega
  clear b3 g4 c3 s4
  go_wp2_with fail
  refine (sizeM_c a len cap most w4 hl m0 m1).mono ?_
  rintro e w' ⟨r2, rfl, r20, r21, rfl⟩
  go_wp2_with fail
  refine (below_c w.heap.size r2 w4 c4 (by omega) (by omega)).mono ?_
  rintro e w5 ⟨y, ⟨y0, y1⟩, rfl, g5, c5⟩
  have b5 := below_of_grown b4 g5
  have HS5 := Lib.hid (HS4.out.grown g5)
  clear b4 g5 c4 HS4
  go_wp2_with fail
  refine (drawPolyI_c w.heap.size f y w5 c5 y0 (by omega)).mono ?_
  rintro e w6 ⟨m, a6, cap6, rfl, hm6, _, s6, c6, g6⟩
  have b6 := below_of_grown b5 g6
  have HL6 := Lib.hid (HS5.out.grown g6)
  have HM6 := Lib.hid s6
  have hm6' : m.length ≤ 4096 := by omega
  clear b5 g6 c5 s6 HS5
  go_wp2_with fail
  refine (once_c w.heap.size 4 w6 c6 (by omega) (by omega)).mono ?_
  rintro e w7 ⟨bb, rfl, g7, c7⟩
  have b7 := below_of_grown b6 g7
  have HL7 := Lib.hid (HL6.out.grown g7)
  have HM7 := Lib.hid (HM6.out.grown g7)
  clear b6 g7 c6 HL6 HM6 hl4 hm6
  have HEND : Hid (Draw2L 1048576 w (.returned (.tuple #[.int .i64 f, .slice a4 l.length cap4, .slice a6 m.length cap6])) w7) := Lib.hid ⟨f, a4, l, cap4, a6, m, cap6, rfl, by omega, by omega, HL7.out.src, HM7.out.src, b7⟩
  cases bb
  · go_wp2
    go_ret3
    exact HEND.out
  · have R1 := sPolyOk f a4 l cap4 w7 (by omega) HL7.out.src
    have R2 := sPolyOk f a6 m cap6 w7 (by omega) HM7.out.src
    by_cases k1 : PolOk f l
    · rw [pok_iff.2 k1] at R1
      by_cases k2 : PolOk f m
      · rw [pok_iff.2 k2] at R2
        have HR1 := Lib.hid R1
        have HR2 := Lib.hid R2
        have HK1 := Lib.hid k1
        have HK2 := Lib.hid k2
        clear R1 R2 k1 k2
        go_wp2_with fail
        refine HR1.out.mono ?_
        rintro e w' ⟨rfl, rfl⟩
        go_wp2_with fail
        refine HR2.out.mono ?_
        rintro e w' ⟨rfl, rfl⟩
        go_wp2_with fail
        refine (below_c w.heap.size 8 w7 c7 (by omega) (by omega)).mono ?_
        rintro e w8 ⟨z, ⟨z0, z1⟩, rfl, g8, c8⟩
        have b8 := below_of_grown b7 g8
        have HL8 := Lib.hid (HL7.out.grown g8)
        have HM8 := Lib.hid (HM7.out.grown g8)
        clear b7 g8 c7 HL7 HM7 HEND HR1 HR2
        go_wp2_with fail
        refine (drawPolyI_c w.heap.size f z w8 c8 z0 (by omega)).mono ?_
        rintro e w9 ⟨d, a9, cap9, rfl, hd9, _, s9, c9, g9⟩
        have b9 := below_of_grown b8 g9
        have HL9 := Lib.hid (HL8.out.grown g9)
        have HM9 := Lib.hid (HM8.out.grown g9)
        have HD9 := Lib.hid s9
        have hd9' : d.length ≤ 4096 := by omega
        have R3 := sPolyOk f a9 d cap9 w9 (by omega) s9.src
        have HEND : Hid (Draw2L 1048576 w (.returned (.tuple #[.int .i64 f, .slice a4 l.length cap4, .slice a6 m.length cap6])) w9) := Lib.hid ⟨f, a4, l, cap4, a6, m, cap6, rfl, by omega, by omega, HL9.out.src, HM9.out.src, b9⟩
        clear b8 g9 c8 HL8 HM8 s9 hd9
        by_cases k3 : PolOk f d
        · rw [pok_iff.2 k3] at R3
          have HR3 := Lib.hid R3
          have HK3 := Lib.hid k3
          have h08 := k3.1
          have HC1 := Lib.hid (lmul_c f a4 a9 l d cap4 cap9 w9 k3.1.1 k3.1.2 hl4' hd9' HK1.out.2.2 k3.2.2 HL9.out.src HD9.out.src)
          clear R3 k3
          go_wp2_with fail
          refine HR3.out.mono ?_
          rintro e w' ⟨rfl, rfl⟩
          go_wp2_with fail
          refine HC1.out.mono ?_
          intro e w10 ho10
          obtain ⟨a10, cap10, rfl, s10, b10⟩ := ho10.list
          have HS10 := Lib.hid s10
          have HC2 := Lib.hid (lmul_c f a6 a9 m d cap6 cap9 w10 h08.1 h08.2 hm6' hd9' HK2.out.2.2 HK3.out.2.2 (HM9.out.src.keep b10) (HD9.out.src.keep b10))
          have b10w := below_step b9 b10
          clear ho10 s10 HC1 HL9 HM9 HD9 b9 b10 HEND
          go_wp2_with fail
          refine HC2.out.mono ?_
          intro e w11 ho11
          obtain ⟨a11, cap11, rfl, s11, b11⟩ := ho11.list
          have HS11 := Lib.hid s11
          have HS10b := Lib.hid (HS10.out.keep b11)
          have b11w := below_step b10w b11
          have q1 := mulL_le f l d
          have q2 := mulL_le f m d
          clear ho11 s11 HC2 HS10 b10w b11
          go_wp2
          go_ret3
          exact ⟨f, a10, mulL f l d, cap10, a11, mulL f m d, cap11, rfl, by omega, by omega, HS10b.out, HS11.out, b11w⟩
        · rw [pok_not.2 k3] at R3
          have HR3 := Lib.hid R3
          clear R3 k3
          go_wp2_with fail
          refine HR3.out.mono ?_
          rintro e w' ⟨rfl, rfl⟩
          go_wp2
          go_ret3
          exact HEND.out
      · rw [pok_not.2 k2] at R2
        have HR1 := Lib.hid R1
        have HR2 := Lib.hid R2
        clear R1 R2 k1 k2
        go_wp2_with fail
        refine HR1.out.mono ?_
        rintro e w' ⟨rfl, rfl⟩
        go_wp2_with fail
        refine HR2.out.mono ?_
        rintro e w' ⟨rfl, rfl⟩
        go_wp2
        go_ret3
        exact HEND.out
    · rw [pok_not.2 k1] at R1
      have HR1 := Lib.hid R1
      clear R1 R2 k1
      go_wp2_with fail
      refine HR1.out.mono ?_
      rintro e w' ⟨rfl, rfl⟩
      go_wp2
      go_ret3
      exact HEND.out
theorem drawDivMod_c (a : Option Addr) (len cap : Nat) (w : World) (hl : len ≤ 1048576) (hc : Code w a len) : Calls Tryd.prog 8 #[.slice a len cap] w (Draw2L 1048576 w) := by
  go_enter Tryd.func8, Tryd.ntmps8
  go_wp2_with fail
  refine (drawTwo_c a len cap 60 w hl hc (by omega) (by omega)).mono ?_
  rintro e w1 ⟨f, a1, l, cap1, a2, m, cap2, rfl, h1, h2, s1, s2, b1⟩
  have HS1 := Lib.hid s1
  have HS2 := Lib.hid s2
  clear s1 s2
  by_cases hlt : l.length < m.length
  · have hd : decide ((l.length : Int) < m.length) = true := decide_eq_true (by omega)
    by_cases h3 : (0 : Int) < (len : Int) % 3
    · go_wp2
      go_ret3
      exact ⟨f, a2, m, cap2, a1, l, cap1, rfl, h2, h1, HS2.out, HS1.out, b1⟩
    · have hd3 : decide ((0 : Int) < (len : Int) % 3) = false := decide_eq_false h3
      go_wp2
      go_ret3
      exact ⟨f, a1, l, cap1, a2, m, cap2, rfl, h1, h2, HS1.out, HS2.out, b1⟩
  · have hd : decide ((l.length : Int) < m.length) = false := decide_eq_false (by omega)
    go_wp2
    go_ret3
    exact ⟨f, a1, l, cap1, a2, m, cap2, rfl, h1, h2, HS1.out, HS2.out, b1⟩
theorem drawGcdPoly_c (a : Option Addr) (len cap : Nat) (w : World) (hl : len ≤ 1048576) (hc : Code w a len) : Calls Tryd.prog 15 #[.slice a len cap] w (Draw2L 1048576 w) := by
  go_enter Tryd.func15, Tryd.ntmps15
  go_wp2_with fail
  refine (drawTwo_c a len cap 30 w hl hc (by omega) (by omega)).mono ?_
  rintro e w1 ⟨f, a1, l, cap1, a2, m, cap2, rfl, h1, h2, s1, s2, b1⟩
  have HS1 := Lib.hid s1
  have HS2 := Lib.hid s2
  clear s1 s2
  go_wp2
  go_ret3
  exact ⟨f, a1, l, cap1, a2, m, cap2, rfl, h1, h2, HS1.out, HS2.out, b1⟩
set_option maxRecDepth 100000 in
set_option maxHeartbeats 3200000 in
theorem drawCompose_c (a : Option Addr) (len cap : Nat) (w : World) (hl : len ≤ 1048576) (hc : Code w a len) : Calls Tryd.prog 21 #[.slice a len cap] w (Draw2L 100 w) := by
  go_enter Tryd.func21, Tryd.ntmps21
  go_wp2_with fail
  refine (new_c a len cap w hc).mono ?_
  rintro e w1 ⟨rfl, b1, c1⟩
  go_wp2_with fail
  refine (field_c w.heap.size w1 c1).mono ?_
  rintro e w2 ⟨f, _, rfl, g2, c2⟩
  go_wp2_with fail
  refine (once_c w.heap.size 8 w2 c2 (by omega) (by omega)).mono ?_
  rintro e w3 ⟨bb, rfl, g3, c3⟩
  have b3 := below_of_grown b1 (g2.trans g3)
  clear b1 g2 g3 c1 c2 hc
  cases bb
  · go_wp2_with fail
    refine (sizeM_c a len cap 14 w3 hl (by omega) (by omega)).mono ?_
    rintro e w' ⟨r, rfl, r0, r1, rfl⟩
    go_wp2_with fail
    refine (below_c w.heap.size r w3 c3 (by omega) (by omega)).mono ?_
    rintro e w4 ⟨x, ⟨x0, x1⟩, rfl, g4, c4⟩
    go_wp2_with fail
    refine (drawPolyI_c w.heap.size f x w4 c4 x0 (by omega)).mono ?_
    rintro e w5 ⟨l, a5, cap5, rfl, hl5, _, s5, c5, g5⟩
    have b5 := below_of_grown b3 (g4.trans g5)
    have HS5 := Lib.hid s5
    have hl5' : l.length ≤ 100 := by omega
    clear b3 g4 g5 c3 c4 s5
    go_wp2_with fail
    refine (sizeM_c a len cap 12 w5 hl (by omega) (by omega)).mono ?_
    rintro e w' ⟨r2, rfl, r20, r21, rfl⟩
    go_wp2_with fail
    refine (below_c w.heap.size r2 w5 c5 (by omega) (by omega)).mono ?_
    rintro e w6 ⟨y, ⟨y0, y1⟩, rfl, g6, c6⟩
    go_wp2_with fail
    refine (drawPolyI_c w.heap.size f y w6 c6 y0 (by omega)).mono ?_
    rintro e w7 ⟨m, a7, cap7, rfl, hm7, _, s7, c7, g7⟩
    have b7 := below_of_grown b5 (g6.trans g7)
    have HS5b := Lib.hid (HS5.out.grown (g6.trans g7))
    have HS7 := Lib.hid s7
    have hm7' : m.length ≤ 100 := by omega
    clear b5 g6 g7 c5 c6 s7 HS5
    go_wp2
    go_ret3
    exact ⟨f, a5, l, cap5, a7, m, cap7, rfl, hl5', hm7', HS5b.out.src, HS7.out.src, b7⟩
  · go_wp2_with fail
    refine (below_c w.heap.size 3 w3 c3 (by omega) (by omega)).mono ?_
    rintro e w4 ⟨x, ⟨x0, x1⟩, rfl, g4, c4⟩
    go_wp2_with fail
    refine (drawPolyI_c w.heap.size f (20 + x) w4 c4 (by omega) (by omega)).mono ?_
    rintro e w5 ⟨l, a5, cap5, rfl, hl5, _, s5, c5, g5⟩
    have b5 := below_of_grown b3 (g4.trans g5)
    have HS5 := Lib.hid s5
    have hl5' : l.length ≤ 100 := by omega
    clear b3 g4 g5 c3 c4 s5
    go_wp2_with fail
    refine (below_c w.heap.size 2 w5 c5 (by omega) (by omega)).mono ?_
    rintro e w6 ⟨y, ⟨y0, y1⟩, rfl, g6, c6⟩
    go_wp2_with fail
    refine (drawPolyI_c w.heap.size f (20 + y) w6 c6 (by omega) (by omega)).mono ?_
    rintro e w7 ⟨m, a7, cap7, rfl, hm7, _, s7, c7, g7⟩
    have b7 := below_of_grown b5 (g6.trans g7)
    have HS5b := Lib.hid (HS5.out.grown (g6.trans g7))
    have HS7 := Lib.hid s7
    have hm7' : m.length ≤ 100 := by omega
    clear b5 g6 g7 c5 c6 s7 HS5
    go_wp2
    go_ret3
    exact ⟨f, a5, l, cap5, a7, m, cap7, rfl, hl5', hm7', HS5b.out.src, HS7.out.src, b7⟩
theorem results_tmpZ {fn : Func} {t u v x : Tmp} (h : fn.results = #[.tmp t, .tmp u, .tmp v, .tmp x]) (tmps : Array Value) (P : Program) (w : World) :
    (results fn tmps).run P w = .ok (.tuple #[tmps.getD t undef, tmps.getD u undef, tmps.getD v undef, tmps.getD x undef]) w := by
  simp [results, h]
def DrawPM (w : World) (e : Ending) (w' : World) : Prop := ∃ (f : Int) (a : Option Addr) (l : List Int) (cap : Nat) (x : Int) (a2 : Option Addr) (m : List Int) (cap2 : Nat),
  e = .returned (.tuple #[.int .i64 f, .slice a l.length cap, .int .i64 x, .slice a2 m.length cap2]) ∧ l.length ≤ 1048576 ∧ m.length ≤ 1048576 ∧ Src w' a l.length (lf l) ∧ Src w' a2 m.length (lf m) ∧ Below w.heap.size w w'
set_option maxRecDepth 100000 in
set_option maxHeartbeats 3200000 in
theorem drawPowMod_c (a : Option Addr) (len cap : Nat) (w : World) (hl : len ≤ 1048576) (hc : Code w a len) : Calls Tryd.prog 27 #[.slice a len cap] w (DrawPM w) := by
  go_enter Tryd.func27, Tryd.ntmps27
  go_wp2_with fail
  refine (new_c a len cap w hc).mono ?_
  rintro e w1 ⟨rfl, b1, c1⟩
  go_wp2_with fail
  refine (field_c w.heap.size w1 c1).mono ?_
  rintro e w2 ⟨f, _, rfl, g2, c2⟩
  go_wp2_with fail
  refine (sizeM_c a len cap 20 w2 hl (by omega) (by omega)).mono ?_
  rintro e w' ⟨r, rfl, r0, r1, rfl⟩
  go_wp2_with fail
  refine (below_c w.heap.size r w2 c2 (by omega) (by omega)).mono ?_
  rintro e w4 ⟨x, ⟨x0, x1⟩, rfl, g4, c4⟩
  go_wp2_with fail
  refine (drawPolyI_c w.heap.size f x w4 c4 x0 (by omega)).mono ?_
  rintro e w5 ⟨l, a5, cap5, rfl, hl5, _, s5, c5, g5⟩
  have b5 := below_of_grown b1 ((g2.trans g4).trans g5)
  have HS5 := Lib.hid s5
  have hl5' : l.length ≤ 1048576 := by omega
  clear b1 g2 g4 g5 c1 c2 c4 s5 hc
  go_wp2_with fail
  refine (sizeM_c a len cap 14 w5 hl (by omega) (by omega)).mono ?_
  rintro e w' ⟨r2, rfl, r20, r21, rfl⟩
  go_wp2_with fail
  refine (below_c w.heap.size r2 w5 c5 (by omega) (by omega)).mono ?_
  rintro e w6 ⟨y, ⟨y0, y1⟩, rfl, g6, c6⟩
  go_wp2_with fail
  refine (drawPolyI_c w.heap.size f y w6 c6 y0 (by omega)).mono ?_
  rintro e w7 ⟨m, a7, cap7, rfl, hm7, _, s7, c7, g7⟩
  have b7 := below_of_grown b5 (g6.trans g7)
  have HS5b := Lib.hid (HS5.out.grown (g6.trans g7))
  have HS7 := Lib.hid s7
  have hm7' : m.length ≤ 1048576 := by omega
  clear b5 g6 g7 c5 c6 s7 HS5
  go_wp2_with fail
  refine (sModulus f w7).mono ?_
  rintro e w' ⟨rfl, rfl⟩
  go_wp2_with fail
  refine (below_c w.heap.size 1000 w7 c7 (by omega) (by omega)).mono ?_
  rintro e w8 ⟨z, ⟨z0, z1⟩, rfl, g8, c8⟩
  have b8 := below_of_grown b7 g8
  have HS8 := Lib.hid (HS5b.out.grown g8)
  have HT8 := Lib.hid (HS7.out.grown g8)
  clear b7 g8 c7 HS5b HS7
  go_wp2_with fail
  refine (pick_c (fun _ => True) w.heap.size w8.heap.size 9 9 _ (c8.alloc _) (by omega) (by omega) (ints_alloc (fun _ => True) c8.lt #[.int .i64 0, .int .i64 1, .int .i64 2, .int .i64 3, .int .i64 ((P f).tmod 1000001), .int .i64 1000000, .int .i64 1000001, .int .i64 (-1), .int .i64 z] 3 (fun j hj => by
    have h3 : j = 0 ∨ j = 1 ∨ j = 2 ∨ j = 3 ∨ j = 4 ∨ j = 5 ∨ j = 6 ∨ j = 7 ∨ j = 8 := by have : j < 9 := hj; omega
    rcases h3 with rfl | rfl | rfl | rfl | rfl | rfl | rfl | rfl | rfl <;> exact ⟨_, rfl, trivial⟩))).mono ?_
  rintro e w9 ⟨u, _, rfl, g9, c9⟩
  have g9' := (World.grownBy_alloc w8 _ (some w.heap.size)).trans g9
  have b9 := below_of_grown b8 g9'
  have HS9 := Lib.hid (HS8.out.grown g9')
  have HT9 := Lib.hid (HT8.out.grown g9')
  clear b8 g9 g9' c8 HS8 HT8
  go_wp2
  (try simp only [Exit.inBlock, Exit.then])
  refine bodyPost_ret (results_tmpZ rfl _ _ _) rfl ?_
  exact ⟨f, a5, l, cap5, u, a7, m, cap7, rfl, hl5', hm7', HS9.out.src, HT9.out.src, b9⟩
theorem src_new2 (w : World) (x y : Int) : Src (w.alloc (.cells #[.int .i64 x, .int .i64 y] 3)) (some ⟨w.heap.size, 0, none⟩) ([x, y] : List Int).length (lf [x, y]) := by
  refine .inr ⟨w.heap.size, 0, rfl, by simp, fun j hj => ?_⟩
  have hj2 : j < 2 := hj
  have h2 := cell_two w (.int .i64 x) (.int .i64 y) 3
  match j, hj2 with
  | 0, _ => exact h2.1
  | 1, _ => exact h2.2
/-- A byte of the code, or a number below 256. -/
theorem byteAt_c (a : Option Addr) (len cap i : Nat) (w : World) (hl : len ≤ 1048576) (hi : i ≤ 1000) (hc : Code w a len) : Calls Tryd.prog 17 #[.slice a len cap, .int .i64 i] w fun e w' => ∃ x : Int, e = .returned (.int .i64 x) ∧ 0 ≤ x ∧ x < 256 ∧ w = w' := by
  by_cases h : i < len
  · have hd : decide ((i : Int) < len) = true := decide_eq_true (by omega)
    rcases hc.2 with hz | ⟨b, off, rfl, hne, hlt, hb⟩
    · omega
    · obtain ⟨n, n0, n1, hcell⟩ := hb i h
      go_enter Tryd.func17, Tryd.ntmps17
      go_wp2
      go_ret
      exact ⟨n, rfl, n0, n1, rfl⟩
  · have hd : decide ((i : Int) < len) = false := decide_eq_false (by omega)
    go_enter Tryd.func17, Tryd.ntmps17
    go_wp2
    go_ret
    exact ⟨_, rfl, by omega, by omega, rfl⟩
end Go.Proofs.YtcenglbcibkniaaDoor
