/-
  The draws of one polynomial and of two.
-/
import Derived.Test.YtcenglbcibkniaaDoorWalkZA
namespace Go.Proofs.YtcenglbcibkniaaDoor
open Go.RowKit
theorem OwnV.grown {g : Nat} {w w' : World} {g2 n cap : Nat} {F : Nat → Int} (h : OwnV w g2 n cap F) (hg : w.grownBy w' (some g)) (hne : g2 ≠ g) : OwnV w' g2 n cap F := by
  obtain ⟨V, h1, h2, h3⟩ := h
  have hlt := OwnV.lt ⟨V, h1, h2, h3⟩
  exact ⟨V, World.rowIs.of_block h1 (hg.block g2 hlt (fun e => by injection e with e; exact hne e)), h2, h3⟩
/-- A drawn list, whose row may still be written. -/
def ZVal (g : Nat) (w : World) (n : Nat) (v : Value) (w' : World) : Prop := ∃ l : List Int, l.length ≤ n ∧ (∃ B, g < B ∧ w.heap.size ≤ B ∧ w'.ownsRow B 3 1 v l.length (xsF (lf l) l.length)) ∧ Cur g w' ∧ w.grownBy w' (some g)
theorem ZVal.of {g : Nat} {w w' : World} {n : Nat} {v : Value} (hB : g < w.heap.size) (h : ZAt g w w' v n) : ZVal g w n v w' := by
  obtain ⟨⟨F, ho⟩, hc, hg, hs⟩ := h
  exact ⟨tab n F, by rw [tab_len]; exact Nat.le_refl _, ⟨w.heap.size, hB, Nat.le_refl _, owns_to_tab ho⟩, hc, hg⟩
theorem ZVal.grown {g : Nat} {w w1 w2 : World} {n : Nat} {v : Value} (h : ZVal g w n v w1) (hg : w1.grownBy w2 (some g)) (hc : Cur g w2) : ZVal g w n v w2 := by
  obtain ⟨l, hl, ⟨B, hB, hB2, ho⟩, _, hg1⟩ := h
  exact ⟨l, hl, ⟨B, hB, hB2, ho.kept hg (zown_ne hB ho)⟩, hc, hg1.trans hg⟩
theorem ZVal.cut {g : Nat} {w w1 : World} {n : Nat} {v : Value} (h : ZVal g w n v w1) (hn : n ≤ 4096) : Calls Tryd.prog 54 #[v] w1 fun e w2 => ∃ v2, e = .returned v2 ∧ ZVal g w n v2 w2 := by
  obtain ⟨l, hl, ⟨B, hB, hB2, ho⟩, hc, hg⟩ := h
  refine (cut_own (by omega) ho).mono ?_
  rintro e w2 ⟨v2, rfl, ho2, hb⟩
  have hle := cutL_le l.length (lf l)
  exact ⟨v2, rfl, cutL l.length (lf l), by omega, ⟨w1.heap.size, by have := hc.lt; omega, hg.size, ho2⟩, hc.below hb, hg.trans (grown_of_below g hb)⟩
theorem ZVal.pol {g : Nat} {w w1 : World} {n : Nat} {v : Value} (h : ZVal g w n v w1) : ZPol g w n (.returned v) w1 := by
  obtain ⟨l, hl, ⟨B, hB, hB2, ho⟩, hc, hg⟩ := h
  obtain ⟨a, cap, rfl, hcap, hs⟩ := SrcO.of ho hB
  exact ⟨l, a, cap, rfl, hl, hcap, hs, hc, hg⟩
/-- The value is a slice: empty, or a row that can be written. -/
theorem ZVal.cases {g : Nat} {w w1 : World} {n : Nat} {v : Value} (h : ZVal g w n v w1) : ∃ (l : List Int) (a : Option Addr) (cap : Nat), v = .slice a l.length cap ∧ l.length ≤ n ∧ (l.length = 0 ∨ ∃ g2, a = some ⟨g2, 0, none⟩ ∧ g2 ≠ g ∧ w.heap.size ≤ g2 ∧ OwnV w1 g2 l.length cap (lf l)) := by
  obtain ⟨l, hl, ⟨B, hB, hB2, ho⟩, hc, hg⟩ := h
  by_cases hz : l.length = 0
  · obtain ⟨a, cap, rfl, hcap, hs⟩ := SrcO.of ho hB
    exact ⟨l, a, cap, rfl, hl, .inl hz⟩
  · obtain ⟨g2, cap, rfl, hg2, ho2⟩ := OwnV.of_owns ho hz
    exact ⟨l, _, cap, rfl, hl, .inr ⟨g2, rfl, by omega, by omega, ho2⟩⟩
/-- After the last number has been written anew. -/
theorem zpol_set {g : Nat} {w w1 w2 : World} {n k g2 cap : Nat} {l : List Int} {y : Int} (hl : l.length = k + 1) (hn : k + 1 ≤ n) (hne : g2 ≠ g) (h2 : w.heap.size ≤ g2) (ho : OwnV w1 g2 (k + 1) cap (lf l)) (hg : w.grownBy w1 (some g)) (g3 : w1.grownBy w2 (some g)) (hc : Cur g w2) (hgl : g < w.heap.size) :
    ZPol g w n (.returned (.slice (some ⟨g2, 0, none⟩) (k + 1) cap)) (w2.setCell ⟨g2, k, none⟩ (.int .i64 y)) := by
  have ho2 := ho.grown g3 hne
  have ho3 := OwnV.set (s := k) (x := y) ho2
  have hcap : k + 1 ≤ cap := by obtain ⟨_, _, h, _⟩ := ho; exact h
  have hg3 : w.grownBy w2 (some g) := hg.trans g3
  have hset : w2.grownBy (w2.setCell ⟨g2, k, none⟩ (.int .i64 y)) (some g2) := grown_set (World.grownBy.refl _ _) _ _
  refine ⟨tab (k + 1) (upd (lf l) k y), some ⟨g2, 0, none⟩, cap, by rw [tab_len], by rw [tab_len]; exact hn, by rw [tab_len]; exact hcap, ?_, ?_, ?_⟩
  · rw [tab_len]
    refine .inr ⟨g2, 0, rfl, hne, ho3.lt, fun j hj => ?_⟩
    rw [Nat.zero_add, ho3.cell hj, lf_tab, if_pos hj]
  · exact hc.other hset (fun r hr => by injection hr with hr; omega)
  · exact grown_new hg3 hset (fun r hr => by injection hr with hr; omega)
set_option maxRecDepth 100000 in
set_option maxHeartbeats 3200000 in
theorem drawPoly_c (g : Nat) (f : Int) (n : Nat) (w : World) (hc : Cur g w) (hn : n ≤ 4096) : Calls Tryd.prog 44 #[.pointer (some ⟨g, 0, none⟩), .int .i64 f, .int .i64 n] w (ZPol g w n) := by
  have hB : g < w.heap.size := hc.lt
  go_enter Tryd.func44, Tryd.ntmps44
  go_wp2_with fail
  refine (drawList_c g f n w hc hn).mono ?_
  rintro e w1 ⟨v1, rfl, hz1⟩
  have hv1 := ZVal.of hB hz1
  have c1 := hz1.2.1
  clear hz1 hc
  by_cases hp : 0 < P f
  · have HC := Lib.hid (ZVal.cut hv1 hn)
    clear hv1
    go_wp2_with fail
    refine (sModulus f w1).mono ?_
    rintro e w' ⟨rfl, rfl⟩
    go_wp2_with fail
    refine HC.out.mono ?_
    rintro e w2 ⟨v2, rfl, hv2⟩
    have c2 : Cur g w2 := by obtain ⟨_, _, _, h, _⟩ := hv2; exact h
    clear HC c1
    go_wp2_with fail
    refine (once_c g 25 w2 c2 (by omega) (by omega)).mono ?_
    rintro e w5 ⟨bb, rfl, g5, c5⟩
    have HV := Lib.hid (hv2.grown g5 c5)
    clear hv2 c2 g5
    cases bb
    · go_wp2
      go_ret
      exact HV.out.pol
    · obtain ⟨l, a, cap, rfl, hl, ha⟩ := HV.out.cases
      by_cases hz : l.length = 0
      · have hd : decide ((0 : Int) < l.length) = false := decide_eq_false (by omega)
        have HP := Lib.hid HV.out.pol
        rw [hz] at HP
        clear ha
        go_wp2
        go_ret
        exact HP.out
      · obtain ⟨k, hk⟩ : ∃ k, l.length = k + 1 := ⟨l.length - 1, by omega⟩
        rcases ha with ha | ⟨g2, rfl, hne, h2, ho⟩
        · exact absurd ha hz
        have hd : decide ((0 : Int) < (k : Int) + 1) = true := decide_eq_true (by omega)
        have hg5 : w.grownBy w5 (some g) := by obtain ⟨_, _, _, _, h⟩ := HV.out; exact h
        rw [hk] at ho
        have HO := Lib.hid ho
        have HK := Lib.hid hk
        have hkn : k + 1 ≤ n := by omega
        rw [hk]
        clear ho hk hz HV hl
        go_wp2_with fail
        refine (sModulus f w5).mono ?_
        rintro e w' ⟨rfl, rfl⟩
        go_wp2_with fail
        refine (pick_c (fun _ => True) g w5.heap.size 3 3 _ (c5.alloc _) (by omega) (by omega) (ints_alloc (fun _ => True) c5.lt #[.int .i64 0, .int .i64 (-1), .int .i64 (P f)] 3 (fun j hj => by
          have h3 : j = 0 ∨ j = 1 ∨ j = 2 := by have : j < 3 := hj; omega
          rcases h3 with rfl | rfl | rfl <;> exact ⟨_, rfl, trivial⟩))).mono ?_
        rintro e w6 ⟨y, _, rfl, g6, c6⟩
        have g6' := (World.grownBy_alloc w5 _ (some g)).trans g6
        have HO6 := Lib.hid (HO.out.grown g6' hne)
        have cc := HO6.out.cell (show k < k + 1 by omega)
        have fr := HO6.out.frozen k
        go_wp2
        go_ret
        exact zpol_set HK.out hkn hne h2 HO.out hg5 g6' c6 hB
  · have hd0 : decide (0 < P f) = false := decide_eq_false hp
    go_wp2_with fail
    refine (sModulus f w1).mono ?_
    rintro e w' ⟨rfl, rfl⟩
    go_wp2_with fail
    refine (once_c g 25 w1 c1 (by omega) (by omega)).mono ?_
    rintro e w5 ⟨bb, rfl, g5, c5⟩
    have HV := Lib.hid (hv1.grown g5 c5)
    clear hv1 c1 g5
    cases bb
    · go_wp2
      go_ret
      exact HV.out.pol
    · obtain ⟨l, a, cap, rfl, hl, ha⟩ := HV.out.cases
      by_cases hz : l.length = 0
      · have hd : decide ((0 : Int) < l.length) = false := decide_eq_false (by omega)
        have HP := Lib.hid HV.out.pol
        rw [hz] at HP
        clear ha
        go_wp2
        go_ret
        exact HP.out
      · obtain ⟨k, hk⟩ : ∃ k, l.length = k + 1 := ⟨l.length - 1, by omega⟩
        rcases ha with ha | ⟨g2, rfl, hne, h2, ho⟩
        · exact absurd ha hz
        have hd : decide ((0 : Int) < (k : Int) + 1) = true := decide_eq_true (by omega)
        have hg5 : w.grownBy w5 (some g) := by obtain ⟨_, _, _, _, h⟩ := HV.out; exact h
        rw [hk] at ho
        have HO := Lib.hid ho
        have HK := Lib.hid hk
        have hkn : k + 1 ≤ n := by omega
        rw [hk]
        clear ho hk hz HV hl
        go_wp2_with fail
        refine (sModulus f w5).mono ?_
        rintro e w' ⟨rfl, rfl⟩
        go_wp2_with fail
        refine (pick_c (fun _ => True) g w5.heap.size 3 3 _ (c5.alloc _) (by omega) (by omega) (ints_alloc (fun _ => True) c5.lt #[.int .i64 0, .int .i64 (-1), .int .i64 (P f)] 3 (fun j hj => by
          have h3 : j = 0 ∨ j = 1 ∨ j = 2 := by have : j < 3 := hj; omega
          rcases h3 with rfl | rfl | rfl <;> exact ⟨_, rfl, trivial⟩))).mono ?_
        rintro e w6 ⟨y, _, rfl, g6, c6⟩
        have g6' := (World.grownBy_alloc w5 _ (some g)).trans g6
        have HO6 := Lib.hid (HO.out.grown g6' hne)
        have cc := HO6.out.cell (show k < k + 1 by omega)
        have fr := HO6.out.frozen k
        go_wp2
        go_ret
        exact zpol_set HK.out hkn hne h2 HO.out hg5 g6' c6 hB
end Go.Proofs.YtcenglbcibkniaaDoor
