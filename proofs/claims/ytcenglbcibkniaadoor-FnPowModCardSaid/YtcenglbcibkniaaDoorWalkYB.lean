/-
  The tests of a list, the program's and the specification's; the specification's cut.
-/
import Derived.Test.YtcenglbcibkniaaDoorWalkY
namespace Go.Proofs.YtcenglbcibkniaaDoor
open Go.RowKit
theorem pok_iff {f : Int} {l : List Int} : mPolyOk f l = true ↔ PolOk f l := by unfold mPolyOk; simp
theorem pok_not {f : Int} {l : List Int} : mPolyOk f l = false ↔ ¬ PolOk f l := by unfold mPolyOk; simp
theorem pol_no {f : Int} {l : List Int} {k : Nat} (h : lf l k < 0 ∨ P f ≤ lf l k) : mPolyOk f l = false := by
  unfold mPolyOk
  rw [decide_eq_false_iff_not]
  rintro ⟨_, _, hp⟩
  have := hp.1 k
  omega
theorem pol_far {f : Int} {l : List Int} (h : ¬ (0 ≤ f ∧ f ≤ 8) ∨ 400 < l.length) : mPolyOk f l = false := by
  unfold mPolyOk
  rw [decide_eq_false_iff_not]
  rintro ⟨hf, hl, _⟩
  rcases h with h | h
  · exact h hf
  · omega
theorem pol_top {f : Int} {l : List Int} {m : Nat} (hm : l.length = m + 1) (h : lf l m = 0) : mPolyOk f l = false := by
  unfold mPolyOk
  rw [decide_eq_false_iff_not]
  rintro ⟨_, _, hp⟩
  rcases hp.2 with h2 | h2
  · omega
  · rw [hm] at h2; exact h2 h
theorem pol_yes {f : Int} {l : List Int} (h0 : 0 ≤ f) (h8 : f ≤ 8) (hl : l.length ≤ 400) (h : ∀ j, j < l.length → 0 ≤ lf l j ∧ lf l j < P f) (ht : l.length = 0 ∨ lf l (l.length - 1) ≠ 0) : mPolyOk f l = true := by
  refine pok_iff.2 ?_
  refine ⟨⟨h0, h8⟩, hl, fun j => ?_, ht⟩
  have := P_bd h0 h8
  by_cases hj : j < l.length
  · exact h j hj
  · rw [lf_out l (by omega)]; omega
def SameB (w : World) (b : Bool) (e : Ending) (w' : World) : Prop := e = .returned (.bool b) ∧ w = w'
set_option maxRecDepth 100000 in
set_option maxHeartbeats 1600000 in
theorem iPolyOk_some (f : Int) (b off m cap : Nat) (F : Nat → Int) (B : Bool) (w : World) (ht : Tab w) (h0 : 0 ≤ f) (h8 : f ≤ 8) (hn : m + 1 ≤ 400) (hc : ∀ j, j < m + 1 → w.cell? ⟨b, off + j, none⟩ = some (.int .i64 (F j)))
    (HN : Hid (∀ k, F k < 0 ∨ P f ≤ F k → B = false)) (HZ : Hid (F m = 0 → B = false)) (HY : Hid ((∀ j, j < m + 1 → 0 ≤ F j ∧ F j < P f) → F m ≠ 0 → B = true)) :
    Calls Tryd.prog 47 #[.int .i64 f, .slice (some ⟨b, off, none⟩) (m + 1) cap] w (SameB w B) := by
  have HC := Lib.hid hc
  clear hc
  have hp := P_bd h0 h8
  have hd : decide ((400 : Int) < m + 1) = false := by simp; omega
  go_enter Tryd.func47, Tryd.ntmps47
  go_wp2_with fail
  refine (known_yes f w h0 h8).mono ?_
  rintro e w' ⟨rfl, rfl⟩
  go_wp2_with fail
  go_loop [7, 19] (fun _ i => ∃ k : Nat, i = .int .i64 k ∧ k ≤ m + 1 ∧ Hid (∀ j, j < k → 0 ≤ F j ∧ F j < P f)) (fun _ i => m + 1 - (intOf i).toNat)
  case atStart => exact ⟨0, rfl, Nat.zero_le _, Lib.hid (fun j hj => by omega)⟩
  case round =>
    obtain ⟨k, rfl, hk, HA⟩ := hrel
    by_cases h1 : k < m + 1
    · have c1 : w.cell? ⟨b, off + k, none⟩ = some (.int .i64 (F k)) := HC.out k h1
      have hd1 : decide ((k : Int) < m + 1) = true := by simp; omega
      by_cases h2 : F k < 0
      · have HB := Lib.hid (HN.out k (.inl h2))
        go_wp2
        go_ret
        exact ⟨by rw [HB.out]; rfl, rfl⟩
      · have hd2 : decide (F k < 0) = false := by simpa using h2
        by_cases h3 : P f ≤ F k
        · have HB := Lib.hid (HN.out k (.inr h3))
          go_wp2_with fail
          refine (prime_c f w ht h0 h8).mono ?_
          rintro e w' ⟨rfl, rfl⟩
          go_wp2
          go_ret
          exact ⟨by rw [HB.out]; rfl, rfl⟩
        · have hd3 : decide (P f ≤ F k) = false := by simpa using h3
          have HA2 : Hid (∀ j, j < k + 1 → 0 ≤ F j ∧ F j < P f) := Lib.hid (fun j hj => by
            by_cases e : j = k
            · subst e; omega
            · exact HA.out j (by omega))
          clear HA
          go_wp2_with fail
          refine (prime_c f w ht h0 h8).mono ?_
          rintro e w' ⟨rfl, rfl⟩
          go_wp2
          go_round
          case rel => exact ⟨k + 1, by go_num, by omega, HA2⟩
          case measure => simp [intOf]; omega
    · have hd1 : decide ((k : Int) < m + 1) = false := by simp; omega
      obtain rfl : k = m + 1 := by omega
      have c1 : w.cell? ⟨b, off + m, none⟩ = some (.int .i64 (F m)) := HC.out m (by omega)
      by_cases h2 : F m = 0
      · have HB := Lib.hid (HZ.out h2)
        have e2 : (F m != 0) = false := by simp [h2]
        clear h2
        go_wp2
        go_ret
        exact ⟨by rw [HB.out]; rfl, rfl⟩
      · have HB := Lib.hid (HY.out HA.out h2)
        have e2 : (F m != 0) = true := by simp [h2]
        clear h2
        go_wp2
        go_ret
        exact ⟨by rw [HB.out]; rfl, rfl⟩
set_option maxRecDepth 100000 in
theorem iPolyOk (f : Int) (a : Option Addr) (l : List Int) (cap : Nat) (w : World) (hn : l.length ≤ 1048576) (hs : Src w a l.length (lf l)) (ht : Tab w) : Calls Tryd.prog 47 #[.int .i64 f, .slice a l.length cap] w (SameB w (mPolyOk f l)) := by
  by_cases hf : 0 ≤ f ∧ f ≤ 8
  · obtain ⟨h0, h8⟩ := hf
    by_cases hl : l.length ≤ 400
    · by_cases hz : l.length = 0
      · have HB := Lib.hid (pol_yes h0 h8 hl (fun j hj => by omega) (.inl hz))
        rw [hz]
        go_enter Tryd.func47, Tryd.ntmps47
        go_wp2_with fail
        refine (known_yes f w h0 h8).mono ?_
        rintro e w' ⟨rfl, rfl⟩
        go_wp2_with fail
        refine wp_loop_rounds 1 ?_
        rw [rounds_succ]
        go_wp2
        go_ret
        exact ⟨by rw [HB.out]; rfl, rfl⟩
      · obtain ⟨m, hm⟩ : ∃ m, l.length = m + 1 := ⟨l.length - 1, by omega⟩
        rcases hs with h | ⟨b, off, rfl, hlt, hc⟩
        · exact absurd h hz
        · have HN : Hid (∀ k, lf l k < 0 ∨ P f ≤ lf l k → mPolyOk f l = false) := Lib.hid fun k h => pol_no h
          have HZ : Hid (lf l m = 0 → mPolyOk f l = false) := Lib.hid fun h => pol_top hm h
          have HY : Hid ((∀ j, j < m + 1 → 0 ≤ lf l j ∧ lf l j < P f) → lf l m ≠ 0 → mPolyOk f l = true) := Lib.hid fun h k => pol_yes h0 h8 hl (by rw [hm]; exact h) (.inr (by rw [hm]; exact k))
          rw [hm] at hc ⊢
          exact iPolyOk_some f b off m cap (lf l) (mPolyOk f l) w ht h0 h8 (by omega) hc HN HZ HY
    · have HB := Lib.hid (pol_far (f := f) (l := l) (.inr (by omega)))
      have hd : decide ((400 : Int) < l.length) = true := by simp; omega
      go_enter Tryd.func47, Tryd.ntmps47
      go_wp2_with fail
      refine (known_yes f w h0 h8).mono ?_
      rintro e w' ⟨rfl, rfl⟩
      go_wp2
      go_ret
      exact ⟨by rw [HB.out]; rfl, rfl⟩
  · have HB := Lib.hid (pol_far (l := l) (.inl hf))
    go_enter Tryd.func47, Tryd.ntmps47
    go_wp2_with fail
    refine (known_no f w (by omega)).mono ?_
    rintro e w' ⟨rfl, rfl⟩
    go_wp2
    go_ret
    exact ⟨by rw [HB.out]; rfl, rfl⟩
theorem cell_two (w : World) (u v : Value) (t : TypeId) : (w.alloc (.cells #[u, v] t)).cell? ⟨w.heap.size, 0, none⟩ = some u ∧ (w.alloc (.cells #[u, v] t)).cell? ⟨w.heap.size, 1, none⟩ = some v := by
  constructor
  · rw [World.cell?_alloc_at _ _ _ _ rfl]; rfl
  · rw [World.cell?_alloc_at _ _ _ _ rfl]; rfl
set_option maxRecDepth 100000 in
set_option maxHeartbeats 1600000 in
theorem arePolys_c (f : Int) (g : Nat) (a a2 : Option Addr) (l l2 : List Int) (cap cap2 : Nat) (w : World) (hn : l.length ≤ 1048576) (hn2 : l2.length ≤ 1048576) (hs : Src w a l.length (lf l)) (hs2 : Src w a2 l2.length (lf l2)) (ht : Tab w)
    (c0 : w.cell? ⟨g, 0, none⟩ = some (.slice a l.length cap)) (c1 : w.cell? ⟨g, 1, none⟩ = some (.slice a2 l2.length cap2)) :
    Calls Tryd.prog 31 #[.int .i64 f, .slice (some ⟨g, 0, none⟩) 2 2] w (SameB w (mPolyOk f l && mPolyOk f l2)) := by
  obtain ⟨x, hx⟩ : ∃ x, mPolyOk f l = x := ⟨_, rfl⟩
  obtain ⟨y, hy⟩ : ∃ y, mPolyOk f l2 = y := ⟨_, rfl⟩
  have H1 := iPolyOk f a l cap w hn hs ht
  have H2 := iPolyOk f a2 l2 cap2 w hn2 hs2 ht
  rw [hx] at H1 ⊢
  rw [hy] at H2 ⊢
  clear hx hy hs hs2
  cases x
  · go_enter Tryd.func31, Tryd.ntmps31
    go_wp2_with fail
    refine wp_loop_rounds 1 ?_
    rw [rounds_succ]
    go_wp2_with fail
    refine H1.mono ?_
    rintro e w' ⟨rfl, rfl⟩
    go_wp2
    go_ret
    exact ⟨rfl, rfl⟩
  · cases y
    · go_enter Tryd.func31, Tryd.ntmps31
      go_wp2_with fail
      refine wp_loop_rounds 2 ?_
      rw [rounds_succ]
      go_wp2_with fail
      refine H1.mono ?_
      rintro e w' ⟨rfl, rfl⟩
      go_wp2_with fail
      rw [rounds_succ]
      go_wp2_with fail
      refine H2.mono ?_
      rintro e w' ⟨rfl, rfl⟩
      go_wp2
      go_ret
      exact ⟨rfl, rfl⟩
    · go_enter Tryd.func31, Tryd.ntmps31
      go_wp2_with fail
      refine wp_loop_rounds 3 ?_
      rw [rounds_succ]
      go_wp2_with fail
      refine H1.mono ?_
      rintro e w' ⟨rfl, rfl⟩
      go_wp2_with fail
      rw [rounds_succ]
      go_wp2_with fail
      refine H2.mono ?_
      rintro e w' ⟨rfl, rfl⟩
      go_wp2_with fail
      rw [rounds_succ]
      go_wp2
      go_ret
      exact ⟨rfl, rfl⟩
theorem in_c (x lo hi : Int) (w : World) : Calls Tryd.prog 58 #[.int .i64 x, .int .i64 lo, .int .i64 hi] w (SameB w (decide (lo ≤ x ∧ x ≤ hi))) := by
  by_cases h1 : lo ≤ x
  · by_cases h2 : x ≤ hi
    · go_enter Tryd.func58, Tryd.ntmps58
      go_wp2
      go_ret
      exact ⟨by simp [h1, h2], rfl⟩
    · have hd : decide (x ≤ hi) = false := by simpa using h2
      go_enter Tryd.func58, Tryd.ntmps58
      go_wp2
      go_ret
      exact ⟨by simp [h2], rfl⟩
  · have hd : decide (lo ≤ x) = false := by simpa using h1
    go_enter Tryd.func58, Tryd.ntmps58
    go_wp2
    go_ret
    exact ⟨by simp [h1], rfl⟩
/-- Whether all are elements. -/
def elemsB (f : Int) (n : Nat) (F : Nat → Int) (B : Bool) : Prop := (B = true → ∀ j, j < n → 0 ≤ F j ∧ F j < P f) ∧ (B = false → ∃ k, k < n ∧ (F k < 0 ∨ P f ≤ F k))
def ElemsP (w : World) (f : Int) (n : Nat) (F : Nat → Int) (e : Ending) (w' : World) : Prop := ∃ B, elemsB f n F B ∧ e = .returned (.bool B) ∧ w = w'
set_option maxRecDepth 100000 in
set_option maxHeartbeats 1600000 in
theorem elements_some (f : Int) (b off n cap : Nat) (F : Nat → Int) (w : World) (h0 : 0 ≤ f) (h8 : f ≤ 8) (hn : n ≤ 1048576) (hc : ∀ j, j < n → w.cell? ⟨b, off + j, none⟩ = some (.int .i64 (F j))) :
    Calls Tryd.prog 30 #[.int .i64 f, .slice (some ⟨b, off, none⟩) n cap] w (ElemsP w f n F) := by
  have HC := Lib.hid hc
  clear hc
  have hp := P_bd h0 h8
  have hz : (P f == 0) = false := by simp; omega
  go_enter Tryd.func30, Tryd.ntmps30
  go_wp2_with fail
  refine (sModulus f w).mono ?_
  rintro e w' ⟨rfl, rfl⟩
  go_wp2_with fail
  go_loop [6] (fun i => ∃ k : Nat, i = .int .i64 k ∧ k ≤ n ∧ Hid (∀ j, j < k → 0 ≤ F j ∧ F j < P f)) (fun i => n - (intOf i).toNat)
  case atStart => exact ⟨0, rfl, Nat.zero_le _, Lib.hid (fun j hj => by omega)⟩
  case round =>
    obtain ⟨k, rfl, hk, HA⟩ := hrel
    by_cases h1 : k < n
    · have c1 : w.cell? ⟨b, off + k, none⟩ = some (.int .i64 (F k)) := HC.out k h1
      by_cases h2 : 0 ≤ F k ∧ F k ≤ P f - 1
      · have HD : Hid (decide (0 ≤ F k ∧ F k ≤ P f - 1) = true) := Lib.hid (by simp; omega)
        have HA2 : Hid (∀ j, j < k + 1 → 0 ≤ F j ∧ F j < P f) := Lib.hid (fun j hj => by
          by_cases e : j = k
          · subst e; omega
          · exact HA.out j (by omega))
        clear HA
        go_wp2_with fail
        refine (in_c (F k) 0 (P f - 1) w).mono ?_
        rintro e w' ⟨rfl, rfl⟩
        rw [HD.out]
        go_wp2
        go_round
        case rel => exact ⟨k + 1, by go_num, by omega, HA2⟩
        case measure => simp [intOf]; omega
      · have HD : Hid (decide (0 ≤ F k ∧ F k ≤ P f - 1) = false) := Lib.hid (by simp; omega)
        have HE : Hid (∃ k, k < n ∧ (F k < 0 ∨ P f ≤ F k)) := Lib.hid ⟨k, h1, by omega⟩
        go_wp2_with fail
        refine (in_c (F k) 0 (P f - 1) w).mono ?_
        rintro e w' ⟨rfl, rfl⟩
        rw [HD.out]
        go_wp2
        go_ret
        exact ⟨false, ⟨(fun h => by cases h), fun _ => HE.out⟩, rfl, rfl⟩
    · have hd : decide (k < n) = false := by simpa using h1
      obtain rfl : k = n := by omega
      go_wp2
      go_ret
      exact ⟨true, ⟨fun _ => HA.out, fun h => by cases h⟩, rfl, rfl⟩
theorem elements_none (f : Int) (a : Option Addr) (cap : Nat) (F : Nat → Int) (w : World) (h0 : 0 ≤ f) (h8 : f ≤ 8) :
    Calls Tryd.prog 30 #[.int .i64 f, .slice a 0 cap] w (ElemsP w f 0 F) := by
  have hp := P_bd h0 h8
  have hz : (P f == 0) = false := by simp; omega
  go_enter Tryd.func30, Tryd.ntmps30
  go_wp2_with fail
  refine (sModulus f w).mono ?_
  rintro e w' ⟨rfl, rfl⟩
  go_wp2_with fail
  refine wp_loop_rounds 1 ?_
  rw [rounds_succ]
  go_wp2
  go_ret
  exact ⟨true, ⟨fun _ j hj => by omega, fun h => by cases h⟩, rfl, rfl⟩
theorem elements_off (f : Int) (a : Option Addr) (n cap : Nat) (w : World) (h : ¬ (0 ≤ f ∧ f ≤ 8)) :
    Calls Tryd.prog 30 #[.int .i64 f, .slice a n cap] w (SameB w false) := by
  have hz : (P f == 0) = true := by simp [P_off (f := f) (by omega)]
  go_enter Tryd.func30, Tryd.ntmps30
  go_wp2_with fail
  refine (sModulus f w).mono ?_
  rintro e w' ⟨rfl, rfl⟩
  go_wp2
  go_ret
  exact ⟨rfl, rfl⟩
theorem elements_c (f : Int) (a : Option Addr) (n cap : Nat) (F : Nat → Int) (w : World) (h0 : 0 ≤ f) (h8 : f ≤ 8) (hn : n ≤ 1048576) (hs : Src w a n F) :
    Calls Tryd.prog 30 #[.int .i64 f, .slice a n cap] w (ElemsP w f n F) := by
  rcases hs with rfl | ⟨b, off, rfl, hlt, hc⟩
  · exact elements_none f a cap F w h0 h8
  · exact elements_some f b off n cap F w h0 h8 hn hc
set_option maxRecDepth 100000 in
set_option maxHeartbeats 1600000 in
theorem sPolyOk (f : Int) (a : Option Addr) (l : List Int) (cap : Nat) (w : World) (hn : l.length ≤ 1048576) (hs : Src w a l.length (lf l)) : Calls Tryd.prog 9 #[.int .i64 f, .slice a l.length cap] w (SameB w (mPolyOk f l)) := by
  by_cases hl : l.length ≤ 400
  · have hd : decide ((400 : Int) < l.length) = false := by simp; omega
    by_cases hf : 0 ≤ f ∧ f ≤ 8
    · obtain ⟨h0, h8⟩ := hf
      by_cases hz : l.length = 0
      · have HB := Lib.hid (pol_yes h0 h8 hl (fun j hj => by omega) (.inl hz))
        have HS := elements_c f a l.length cap (lf l) w h0 h8 hn hs
        rw [hz] at HS hd ⊢
        clear hs
        go_enter Tryd.func9, Tryd.ntmps9
        go_wp2_with fail
        refine HS.mono ?_
        rintro e w' ⟨B, hB, rfl, rfl⟩
        cases B
        · obtain ⟨k, hk, _⟩ := hB.2 rfl
          omega
        go_wp2
        go_ret
        exact ⟨by rw [HB.out]; rfl, rfl⟩
      · obtain ⟨m, hm⟩ : ∃ m, l.length = m + 1 := ⟨l.length - 1, by omega⟩
        have HS := elements_c f a l.length cap (lf l) w h0 h8 hn hs
        rcases hs with h | ⟨b, off, rfl, hlt, hc⟩
        · exact absurd h hz
        · have c1 : w.cell? ⟨b, off + m, none⟩ = some (.int .i64 (lf l m)) := hc m (by omega)
          have HE : Hid (∀ B, elemsB f (m + 1) (lf l) B → (B = false → mPolyOk f l = false) ∧ (B = true → lf l m ≠ 0 → mPolyOk f l = true) ∧ (lf l m = 0 → mPolyOk f l = false)) := Lib.hid fun B hB => by
            refine ⟨fun e => ?_, fun e k => pol_yes h0 h8 hl (by rw [hm]; exact hB.1 e) (.inr (by rw [hm]; exact k)), fun k => pol_top hm k⟩
            obtain ⟨k, _, h⟩ := hB.2 e
            exact pol_no h
          have hm4 : m + 1 ≤ 400 := by omega
          rw [hm] at HS hd ⊢
          clear hc hm hz hl hn
          generalize mPolyOk f l = R at *
          generalize lf l = F at *
          have hd : decide ((400 : Int) < m + 1) = false := hd
          go_enter Tryd.func9, Tryd.ntmps9
          go_wp2_with fail
          refine HS.mono ?_
          rintro e w' ⟨B, hB, rfl, rfl⟩
          have HE2 := Lib.hid (HE.out B hB)
          clear HE hB HS
          cases B
          · have HB := Lib.hid (HE2.out.1 rfl)
            clear HE2
            go_wp2
            go_ret
            exact ⟨by rw [HB.out]; rfl, rfl⟩
          · by_cases h2 : F m = 0
            · have HB := Lib.hid (HE2.out.2.2 h2)
              have e2 : (F m != 0) = false := by simp [h2]
              clear h2 HE2
              go_wp2
              go_ret
              exact ⟨by rw [HB.out]; rfl, rfl⟩
            · have HB := Lib.hid (HE2.out.2.1 rfl h2)
              have e2 : (F m != 0) = true := by simp [h2]
              clear h2 HE2
              go_wp2
              go_ret
              exact ⟨by rw [HB.out]; rfl, rfl⟩
    · have HB := Lib.hid (pol_far (l := l) (.inl hf))
      go_enter Tryd.func9, Tryd.ntmps9
      go_wp2_with fail
      refine (elements_off f a l.length cap w hf).mono ?_
      rintro e w' ⟨rfl, rfl⟩
      go_wp2
      go_ret
      exact ⟨by rw [HB.out]; rfl, rfl⟩
  · have HB := Lib.hid (pol_far (f := f) (l := l) (.inr (by omega)))
    have hd : decide ((400 : Int) < l.length) = true := by simp; omega
    go_enter Tryd.func9, Tryd.ntmps9
    go_wp2
    go_ret
    exact ⟨by rw [HB.out]; rfl, rfl⟩
theorem iPolyOkB (f : Int) (a : Option Addr) (l : List Int) (cap : Nat) (w : World) (hn : l.length ≤ 1048576) (hs : Src w a l.length (lf l)) (ht : Tab w) : Calls Tryd.prog 47 #[.int .i64 f, .slice a l.length cap] w (BoolP w (mPolyOk f l)) :=
  (iPolyOk f a l cap w hn hs ht).mono fun _ _ h => ⟨h.1, by rw [← h.2]; exact Below.refl _ _⟩
theorem sPolyOkB (f : Int) (a : Option Addr) (l : List Int) (cap : Nat) (w : World) (hn : l.length ≤ 1048576) (hs : Src w a l.length (lf l)) : Calls Tryd.prog 9 #[.int .i64 f, .slice a l.length cap] w (BoolP w (mPolyOk f l)) :=
  (sPolyOk f a l cap w hn hs).mono fun _ _ h => ⟨h.1, by rw [← h.2]; exact Below.refl _ _⟩
end Go.Proofs.YtcenglbcibkniaaDoor
