/-
  Products of polynomials, the program's and the specification's.
-/
import Derived.Test.YtcenglbcibkniaaDoorWalkYC
import Derived.Test.YtcenglbcibkniaaDoorWalkYD
namespace Go.Proofs.YtcenglbcibkniaaDoor
open Go.RowKit
/-- The row within a round: the first j of row i done. -/
def prw (f : Int) (A B : Nat → Int) (i j : Nat) : Nat → Int := fun k => if i ≤ k ∧ k < i + j then RS (cpar A B k (i + 1)) (P f) else RS (cpar A B k i) (P f)
theorem prw_zero (f : Int) (A B : Nat → Int) (i k : Nat) : RS (cpar A B k i) (P f) = prw f A B i 0 k := by unfold prw; rw [if_neg (by omega)]
theorem prw_at (f : Int) (A B : Nat → Int) (i j : Nat) : prw f A B i j (i + j) = RS (cpar A B (i + j) i) (P f) := by unfold prw; rw [if_neg (by omega)]
theorem prw_new (f : Int) (A B : Nat → Int) (i j : Nat) : RS (RS (cpar A B (i + j) i) (P f) + A i * B j) (P f) = RS (cpar A B (i + j) (i + 1)) (P f) := by
  rw [cpar_succ, if_pos (by omega), Nat.add_sub_cancel_left]
  unfold RS
  exact emod_add_congr (by simp) rfl
theorem prw_succ (f : Int) (A B : Nat → Int) (i j k : Nat) : (if k = i + j then RS (cpar A B (i + j) (i + 1)) (P f) else prw f A B i j k) = prw f A B i (j + 1) k := by
  unfold prw
  by_cases h : k = i + j
  · subst h
    rw [if_pos rfl, if_pos (by omega)]
  · rw [if_neg h]
    by_cases h1 : i ≤ k ∧ k < i + j
    · rw [if_pos h1, if_pos (by omega)]
    · rw [if_neg h1, if_neg (by omega)]
theorem prw_end {f : Int} {A B : Nat → Int} {m : Nat} (hB : ∀ j, m ≤ j → B j = 0) (i k : Nat) : prw f A B i m k = RS (cpar A B k (i + 1)) (P f) := by
  unfold prw
  split
  · rfl
  · rename_i h
    rw [cpar_succ]
    by_cases h1 : i ≤ k
    · rw [if_pos h1, hB (k - i) (by omega), Int.mul_zero, Int.add_zero]
    · rw [if_neg h1, Int.add_zero]
theorem prw_set {f : Int} {wr : World} {g N i j : Nat} {A B : Nat → Int} (h : Own wr g N (prw f A B i j)) : Own (wr.setCell ⟨g, i + j, none⟩ (.int .i64 (RS (cpar A B (i + j) (i + 1)) (P f)))) g N (prw f A B i (j + 1)) := by
  refine (World.rowIs.set h (i + j) (.int .i64 (RS (cpar A B (i + j) (i + 1)) (P f)))).congr fun k _ => ?_
  rw [← prw_succ]
  split <;> rfl
set_option maxRecDepth 100000 in
set_option maxHeartbeats 3200000 in
theorem product_some (f : Int) (b off b2 off2 n m cap cap2 N : Nat) (A B : Nat → Int) (w : World) (ht : Tab w) (h0 : 0 ≤ f) (h8 : f ≤ 8) (hn : n ≤ 4096) (hm : m ≤ 4096) (n0 : 0 < n) (m0 : 0 < m) (hN : n + m = N + 1)
    (hA : ∀ j, 0 ≤ A j ∧ A j < P f) (hB : ∀ j, 0 ≤ B j ∧ B j < P f) (hB2 : ∀ j, m ≤ j → B j = 0) (hlt : b < w.heap.size) (hlt2 : b2 < w.heap.size)
    (hc : ∀ j, j < n → w.cell? ⟨b, off + j, none⟩ = some (.int .i64 (A j))) (hc2 : ∀ j, j < m → w.cell? ⟨b2, off2 + j, none⟩ = some (.int .i64 (B j))) :
    Calls Tryd.prog 33 #[.int .i64 f, .slice (some ⟨b, off, none⟩) n cap, .slice (some ⟨b2, off2, none⟩) m cap2] w fun e w' => e = .returned (.slice (some ⟨w.heap.size, 0, none⟩) N N) ∧ Own w' w.heap.size N (fun k => RS (cpar A B k n) (P f)) ∧ Below w.heap.size w w' := by
  have HC := Lib.hid hc
  have HC2 := Lib.hid hc2
  have HA := Lib.hid hA
  have HB := Lib.hid hB
  have HB2 := Lib.hid hB2
  clear hc hc2 hA hB hB2
  have hp := P_bd h0 h8
  have z1 : ((n : Int) == 0) = false := by simp; omega
  have z2 : ((m : Int) == 0) = false := by simp; omega
  have hmk : ∀ w, (Instr.makeSlice 24 (.int .i64 ((n : Int) + m - 1)) (.int .i64 ((n : Int) + m - 1))).run Tryd.prog w = .ok (.slice (some ⟨w.heap.size, 0, none⟩) N N) (w.alloc (.cells (madeCells #[.int .i64 0] N) 3)) := fun w => by
    rw [show ((n : Int) + m - 1) = (N : Int) by omega]; exact made_n N (by omega) w
  go_enter Tryd.func33, Tryd.ntmps33
  go_wp2_with fail
  clear hmk
  go_loopw [8, 9, 10, 11, 30] (fun _ _ _ _ i wr => ∃ k : Nat, i = .int .i64 k ∧ k ≤ n ∧ Own wr w.heap.size N (fun j => RS (cpar A B j k) (P f)) ∧ Below w.heap.size w wr) (fun _ _ _ _ i _ => n - (intOf i).toNat)
  case atStart =>
    refine ⟨0, rfl, Nat.zero_le _, ?_, (Below.refl _ _).alloc (Nat.le_refl _) _⟩
    exact (World.rowIs_made w (.int .i64 0) N 3).congr fun j _ => by simp [cpar, sumN, RS]
  case round =>
    obtain ⟨i, rfl, hi, ho, hb⟩ := hrel
    by_cases h1 : i < n
    · have d1 : wr.cell? ⟨b, off + i, none⟩ = some (.int .i64 (A i)) := (hb.cell (p := ⟨b, off + i, none⟩) hlt).trans (HC.out i h1)
      have bA := HA.out i
      have HO := Lib.hid (own_congr ho rfl (fun k _ => prw_zero f A B i k))
      clear ho
      go_wp2_with fail
      go_loopw [10, 11, 37] (fun _ _ i2 wr => ∃ j : Nat, i2 = .int .i64 j ∧ j ≤ m ∧ Own wr w.heap.size N (prw f A B i j) ∧ Below w.heap.size w wr) (fun _ _ i2 _ => m - (intOf i2).toNat)
      case atStart => exact ⟨0, rfl, Nat.zero_le _, HO.out, hb⟩
      case round =>
        clear HO d1 hb
        obtain ⟨j, rfl, hj, ho, hb⟩ := hrel
        by_cases h2 : j < m
        · have d2 : wr.cell? ⟨b2, off2 + j, none⟩ = some (.int .i64 (B j)) := (hb.cell (p := ⟨b2, off2 + j, none⟩) hlt2).trans (HC2.out j h2)
          have hij : i + j < N := by omega
          have c2 := World.rowIs.cell ho hij
          rw [prw_at] at c2
          have c3 := World.rowIs.frozen ho (i + j)
          have HT := Lib.hid (ht.below hb)
          have bB := HB.out j
          have pb := prod_bd h0 h8 bA.1 bA.2 bB.1 bB.2
          have pr := RS_bd (x := cpar A B (i + j) i) (m := P f) (by omega)
          have HS := Lib.hid (prw_set ho)
          have HE := Lib.hid (prw_new f A B i j)
          clear ho
          generalize RS (cpar A B (i + j) i) (P f) = X at *
          go_wp2_with fail
          refine (reduce_c f (X + A i * B j) wr HT.out h0 h8).mono ?_
          rintro e w' ⟨rfl, rfl⟩
          rw [HE.out]
          go_wp2
          go_roundw
          case rel => exact ⟨j + 1, by go_num, by omega, HS.out, hb.setCell (Nat.le_refl _) _⟩
          case measure => simp [intOf]; omega
        · have hd2 : decide (j < m) = false := by simpa using h2
          obtain rfl : j = m := by omega
          have HO := Lib.hid (own_congr ho rfl (fun k _ => prw_end HB2.out i k))
          clear ho
          go_wp2
          go_roundw
          case rel => exact ⟨i + 1, by go_num, by omega, HO.out, hb⟩
          case measure => simp [intOf]; omega
    · have hd : decide (i < n) = false := by simpa using h1
      obtain rfl : i = n := by omega
      have HO := Lib.hid ho
      clear ho
      go_wp2
      go_ret
      exact ⟨rfl, HO.out, hb⟩
theorem product_none (f : Int) (a a2 : Option Addr) (n m cap cap2 : Nat) (w : World) (hz : n = 0 ∨ m = 0) :
    Calls Tryd.prog 33 #[.int .i64 f, .slice a n cap, .slice a2 m cap2] w (OwnG w []) := by
  have HP := poly_none none 0 (fun _ => 0) w
  rw [show cutL 0 (fun _ => 0) = [] from rfl] at HP
  by_cases h1 : n = 0
  · subst h1
    go_enter Tryd.func33, Tryd.ntmps33
    go_wp2_with fail
    refine HP.mono ?_
    rintro e w2 ⟨g, rfl, hg, hO, hB⟩
    have HO := Lib.hid hO
    clear hO
    go_wp2
    go_ret
    exact ⟨g, rfl, hg, HO.out, hB⟩
  · obtain rfl : m = 0 := by omega
    have z1 : ((n : Int) == 0) = false := by simp; omega
    go_enter Tryd.func33, Tryd.ntmps33
    go_wp2_with fail
    refine HP.mono ?_
    rintro e w2 ⟨g, rfl, hg, hO, hB⟩
    have HO := Lib.hid hO
    clear hO
    go_wp2
    go_ret
    exact ⟨g, rfl, hg, HO.out, hB⟩
theorem product_c (f : Int) (a a2 : Option Addr) (l m : List Int) (cap cap2 : Nat) (w : World) (ht : Tab w) (h0 : 0 ≤ f) (h8 : f ≤ 8) (hn : l.length ≤ 4096) (hm : m.length ≤ 4096) (hl : Pol f l) (hm2 : Pol f m) (hs : Src w a l.length (lf l)) (hs2 : Src w a2 m.length (lf m)) :
    Calls Tryd.prog 33 #[.int .i64 f, .slice a l.length cap, .slice a2 m.length cap2] w (OwnG w (mulL f l m)) := by
  by_cases hz : l.length = 0 ∨ m.length = 0
  · have e : mulL f l m = [] := by
      rcases hz with h | h
      · rw [List.eq_nil_of_length_eq_zero h, mulL_nil_l]
      · rw [List.eq_nil_of_length_eq_zero h, mulL_nil_r]
    rw [e]
    exact product_none f a a2 l.length m.length cap cap2 w hz
  · rcases hs with h | ⟨b, off, rfl, hlt, hc⟩
    · exact absurd (.inl h) hz
    · rcases hs2 with h | ⟨b2, off2, rfl, hlt2, hc2⟩
      · exact absurd (.inr h) hz
      · refine (product_some f b off b2 off2 l.length m.length cap cap2 (l.length + m.length - 1) (lf l) (lf m) w ht h0 h8 hn hm (by omega) (by omega) (by omega) hl.1 hm2.1 (fun j hj => lf_out m hj) hlt hlt2 hc hc2).mono ?_
        rintro e w' ⟨rfl, ho, hb⟩
        refine OwnG.of_own ho (mulL_len h0 h8 hl hm2 (by omega) (by omega)).symm (Nat.le_refl _) (fun j hj => ?_) hb
        rw [lf_mulL, cpar_end j (fun i hi => lf_out l hi)]; rfl
/-- The specification's sum for one coefficient. -/
theorem mul_step {f : Int} (A B : Nat → Int) (k j : Nat) (h : j ≤ k) : RS (RS (cpar A B k j) (P f) + A j * B (k - j)) (P f) = RS (cpar A B k (j + 1)) (P f) := by
  rw [cpar_succ, if_pos h]
  unfold RS
  exact emod_add_congr (by simp) rfl
theorem mul_skip {f : Int} {A B : Nat → Int} {m : Nat} (hB : ∀ j, m ≤ j → B j = 0) {k j : Nat} (h : j ≤ k) (h2 : m ≤ k - j) : RS (cpar A B k j) (P f) = RS (cpar A B k (j + 1)) (P f) := by
  rw [cpar_succ, if_pos h, hB _ h2, Int.mul_zero, Int.add_zero]
/-- At the end of the inner loop all that counts has been added. -/
theorem mul_done {f : Int} {A B : Nat → Int} {n : Nat} (hA : ∀ j, n ≤ j → A j = 0) {k j : Nat} (h : k < j ∨ n ≤ j) : RS (cpar A B k j) (P f) = RS (cv k A B) (P f) := by
  rcases h with h | h
  · rw [cv_sum]
    congr 1
    unfold cpar
    rw [sumN_congr (f := fun i => A i * B (k - i)) (g := fun j => if j ≤ k then A j * B (k - j) else 0) (fun i hi => by simp [show i ≤ k by omega])]
    exact sumN_more (by omega) (fun i h1 h2 => by simp [show ¬ i ≤ k by omega])
  · rw [← cpar_end k hA]
    congr 1
    unfold cpar
    exact sumN_more h (fun i h1 _ => by simp [hA i h1])
set_option maxRecDepth 100000 in
set_option maxHeartbeats 3200000 in
theorem lmul_some (f : Int) (b off b2 off2 n m cap cap2 N : Nat) (A B : Nat → Int) (w : World) (h0 : 0 ≤ f) (h8 : f ≤ 8) (hn : n ≤ 4096) (hm : m ≤ 4096) (n0 : 0 < n) (m0 : 0 < m) (hN : n + m = N + 1)
    (hA : ∀ j, 0 ≤ A j ∧ A j < P f) (hB : ∀ j, 0 ≤ B j ∧ B j < P f) (hA2 : ∀ j, n ≤ j → A j = 0) (hB2 : ∀ j, m ≤ j → B j = 0) (hlt : b < w.heap.size) (hlt2 : b2 < w.heap.size)
    (hc : ∀ j, j < n → w.cell? ⟨b, off + j, none⟩ = some (.int .i64 (A j))) (hc2 : ∀ j, j < m → w.cell? ⟨b2, off2 + j, none⟩ = some (.int .i64 (B j))) :
    Calls Tryd.prog 36 #[.int .i64 f, .slice (some ⟨b, off, none⟩) n cap, .slice (some ⟨b2, off2, none⟩) m cap2] w (OwnsL w (cutL N (fun k => RS (cv k A B) (P f)))) := by
  have HC := Lib.hid hc
  have HC2 := Lib.hid hc2
  have HA := Lib.hid hA
  have HB := Lib.hid hB
  have HB2 := Lib.hid hB2
  have HA2 := Lib.hid hA2
  clear hc hc2 hA hB hB2 hA2
  have hp := P_bd h0 h8
  have z1 : ((n : Int) == 0) = false := by simp; omega
  have z2 : ((m : Int) == 0) = false := by simp; omega
  obtain ⟨i0, hi, hz0, hz1, hz2⟩ := info_parts info3
  have HI := Lib.hid hi
  have HZ0 := Lib.hid hz0
  have HZ1 := Lib.hid hz1
  have HZ2 := Lib.hid hz2
  clear hi hz0 hz1 hz2
  go_enter Tryd.func36, Tryd.ntmps36
  go_wp2_with fail
  refine (sModulus f w).mono ?_
  rintro e w' ⟨rfl, rfl⟩
  go_wp2_with fail
  go_loopw [8, 9, 10, 11] (fun v i _ _ wr => ∃ k : Nat, i = .int .i64 k ∧ k ≤ N ∧ wr.ownsRow w.heap.size 3 1 v k (xsF (fun k => RS (cv k A B) (P f)) k) ∧ Below w.heap.size w wr) (fun _ i _ _ _ => N - (intOf i).toNat)
  case atStart => exact ⟨0, rfl, Nat.zero_le _, own_empty w _, (Below.refl _ _).alloc (Nat.le_refl _) _⟩
  case round =>
    obtain ⟨k, rfl, hk, hown, hnx⟩ := hrel
    by_cases h1 : k < N
    · have hd1 : decide ((k : Int) < (n : Int) + m - 1) = true := by simp; omega
      have HOWN := Lib.hid hown
      clear hown
      go_wp2_with fail
      go_loopw [10, 11] (fun s j wr2 => ∃ i : Nat, j = .int .i64 i ∧ i ≤ n ∧ i ≤ k + 1 ∧ s = .int .i64 (RS (cpar A B k i) (P f)) ∧ ∃ q, wr2 = wr.drewN q) (fun _ j _ => n - (intOf j).toNat)
      case atStart => exact ⟨0, rfl, Nat.zero_le _, Nat.zero_le _, by simp [cpar, sumN, RS], 0, rfl⟩
      case round =>
        obtain ⟨i, rfl, hin, hik, rfl, q, rfl⟩ := hrel
        have hbq := below_drewN hnx q
        by_cases h2 : i ≤ k
        · by_cases h3 : i < n
          · have d1 : wr.cell? ⟨b, off + i, none⟩ = some (.int .i64 (A i)) := (hnx.cell (p := ⟨b, off + i, none⟩) hlt).trans (HC.out i h3)
            by_cases h4 : k - i < m
            · have d2 : wr.cell? ⟨b2, off2 + (k - i), none⟩ = some (.int .i64 (B (k - i))) := (hnx.cell (p := ⟨b2, off2 + (k - i), none⟩) hlt2).trans (HC2.out _ h4)
              have hd4 : decide ((k : Int) - i < m) = true := by simp; omega
              have bA := HA.out i
              have bB := HB.out (k - i)
              have pb := prod_bd h0 h8 bA.1 bA.2 bB.1 bB.2
              have pr := RS_bd (x := cpar A B k i) (m := P f) (by omega)
              have HS := Lib.hid (mul_step (f := f) A B k i h2)
              have q1 : IntKind.i64.wrap ((k : Int) - i) = (k : Int) - i := IntWalk.i64_in _ (by omega)
              have q2 : ((k : Int) - i).toNat = k - i := by omega
              have q3 : (0 : Int) ≤ (k : Int) - i := by omega
              have q4 : (k : Int) - i < m := by omega
              have q5 : IntKind.i64.wrap (A i * B (k - i)) = A i * B (k - i) := IntWalk.i64_in _ (by omega)
              generalize RS (cpar A B k i) (P f) = X at *
              have q6 : IntKind.i64.wrap (X + A i * B (k - i)) = X + A i * B (k - i) := IntWalk.i64_in _ (by omega)
              have q7 : ¬ P f = 0 := by omega
              go_wp2
              go_quiet (fail)
              go_wp2
              go_roundw
              case rel => exact ⟨i + 1, by go_num, by omega, by omega, vint HS.out, _, rfl⟩
              case measure => simp [intOf]; omega
            · have hd4 : decide ((k : Int) - i < m) = false := by simp; omega
              have HS := Lib.hid (mul_skip (f := f) (A := A) HB2.out h2 (by omega))
              go_wp2
              go_roundw
              case rel => exact ⟨i + 1, by go_num, by omega, by omega, vint HS.out, q, rfl⟩
              case measure => simp [intOf]; omega
          · have hd3 : decide ((i : Int) < n) = false := by simp; omega
            have HE := Lib.hid (mul_done (f := f) (B := B) HA2.out (k := k) (j := i) (.inr (by omega)))
            have hown : (wr.drewN q).ownsRow w.heap.size 3 1 _ k (xsF (fun k => RS (cv k A B) (P f)) k) := HOWN.out
            have hs := hbq.size
            have hqs : (wr.drewN q).heap.size = wr.heap.size := rfl
            go_wp2_with (at_builtin; refine wpList_append_own _ rfl _ _ 24 rfl w.heap.size 3 i0 (.int .i64 0) 1 8 Tryd.underlying24 HI.out HZ0.out HZ1.out HZ2.out rfl (by decide) _ _ _ rfl (hown.alloc _) ⟨(wr.drewN q).heap.size, 0, none⟩ 1 1 [.int .i64 (RS (cpar A B k i) (P f))] rfl rfl ?c1 ?c2 ?c3 ?c4 ?c5 ?_)
            case c1 => exact cell_one_new _ _ _
            case c2 => intro u hu; simp at hu; subst hu; rfl
            case c3 => unfold maxLen; omega
            case c4 => omega
            case c5 => simp; omega
            intro v' w1 hown' hgrow _
            have hbel : Below w.heap.size w w1 := (hbq.alloc hs _).grown hgrow (by simp; omega) (own_ge hown)
            rw [vint HE.out, xsF_succ (fun k => RS (cv k A B) (P f))] at hown'
            clear hgrow hown HOWN
            go_wp2
            go_roundw
            case rel => exact ⟨k + 1, by go_num, by omega, hown', hbel⟩
            case measure => simp [intOf]; omega
        · have hd2 : decide ((i : Int) ≤ k) = false := by simp; omega
          have HE := Lib.hid (mul_done (f := f) (B := B) HA2.out (k := k) (j := i) (.inl (by omega)))
          have hown : (wr.drewN q).ownsRow w.heap.size 3 1 _ k (xsF (fun k => RS (cv k A B) (P f)) k) := HOWN.out
          have hs := hbq.size
          have hqs : (wr.drewN q).heap.size = wr.heap.size := rfl
          go_wp2_with (at_builtin; refine wpList_append_own _ rfl _ _ 24 rfl w.heap.size 3 i0 (.int .i64 0) 1 8 Tryd.underlying24 HI.out HZ0.out HZ1.out HZ2.out rfl (by decide) _ _ _ rfl (hown.alloc _) ⟨(wr.drewN q).heap.size, 0, none⟩ 1 1 [.int .i64 (RS (cpar A B k i) (P f))] rfl rfl ?d1 ?d2 ?d3 ?d4 ?d5 ?_)
          case d1 => exact cell_one_new _ _ _
          case d2 => intro u hu; simp at hu; subst hu; rfl
          case d3 => unfold maxLen; omega
          case d4 => omega
          case d5 => simp; omega
          intro v' w1 hown' hgrow _
          have hbel : Below w.heap.size w w1 := (hbq.alloc hs _).grown hgrow (by simp; omega) (own_ge hown)
          rw [vint HE.out, xsF_succ (fun k => RS (cv k A B) (P f))] at hown'
          clear hgrow hown HOWN
          go_wp2
          go_roundw
          case rel => exact ⟨k + 1, by go_num, by omega, hown', hbel⟩
          case measure => simp [intOf]; omega
    · have hd : decide ((k : Int) < (n : Int) + m - 1) = false := by simp; omega
      obtain rfl : k = N := by omega
      have HO := Lib.hid (cut_own (by omega) hown)
      clear hown
      go_wp2_with fail
      refine HO.out.mono ?_
      rintro e w2 ho
      obtain ⟨v2, rfl, ho2, hb2⟩ := ho.up hnx hnx.size
      have HO2 := Lib.hid ho2
      clear ho ho2 HO
      go_wp2
      go_ret
      exact ⟨_, rfl, HO2.out, hb2⟩
theorem lmul_none (f : Int) (a a2 : Option Addr) (n m cap cap2 : Nat) (w : World) (hz : n = 0 ∨ m = 0) :
    Calls Tryd.prog 36 #[.int .i64 f, .slice a n cap, .slice a2 m cap2] w (OwnsL w []) := by
  by_cases h1 : n = 0
  · subst h1
    go_enter Tryd.func36, Tryd.ntmps36
    go_wp2_with fail
    refine (sModulus f w).mono ?_
    rintro e w' ⟨rfl, rfl⟩
    go_wp2
    go_ret
    exact ⟨_, rfl, own_empty w _, (Below.refl _ _).alloc (Nat.le_refl _) _⟩
  · obtain rfl : m = 0 := by omega
    have z1 : ((n : Int) == 0) = false := by simp; omega
    go_enter Tryd.func36, Tryd.ntmps36
    go_wp2_with fail
    refine (sModulus f w).mono ?_
    rintro e w' ⟨rfl, rfl⟩
    go_wp2
    go_ret
    exact ⟨_, rfl, own_empty w _, (Below.refl _ _).alloc (Nat.le_refl _) _⟩
theorem lmul_c (f : Int) (a a2 : Option Addr) (l m : List Int) (cap cap2 : Nat) (w : World) (h0 : 0 ≤ f) (h8 : f ≤ 8) (hn : l.length ≤ 4096) (hm : m.length ≤ 4096) (hl : Pol f l) (hm2 : Pol f m) (hs : Src w a l.length (lf l)) (hs2 : Src w a2 m.length (lf m)) :
    Calls Tryd.prog 36 #[.int .i64 f, .slice a l.length cap, .slice a2 m.length cap2] w (OwnsL w (mulL f l m)) := by
  by_cases hz : l.length = 0 ∨ m.length = 0
  · have e : mulL f l m = [] := by
      rcases hz with h | h
      · rw [List.eq_nil_of_length_eq_zero h, mulL_nil_l]
      · rw [List.eq_nil_of_length_eq_zero h, mulL_nil_r]
    rw [e]
    exact lmul_none f a a2 l.length m.length cap cap2 w hz
  · rcases hs with h | ⟨b, off, rfl, hlt, hc⟩
    · exact absurd (.inl h) hz
    · rcases hs2 with h | ⟨b2, off2, rfl, hlt2, hc2⟩
      · exact absurd (.inr h) hz
      · exact lmul_some f b off b2 off2 l.length m.length cap cap2 (l.length + m.length - 1) (lf l) (lf m) w h0 h8 hn hm (by omega) (by omega) (by omega) hl.1 hm2.1 (fun j hj => lf_out l hj) (fun j hj => lf_out m hj) hlt hlt2 hc hc2
end Go.Proofs.YtcenglbcibkniaaDoor
