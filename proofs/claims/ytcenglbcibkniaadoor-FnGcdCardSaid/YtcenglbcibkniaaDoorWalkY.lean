/-
  Polynomials: the cut of the zeros, copies, the tests of a list.
-/
import Derived.Test.YtcenglbcibkniaaDoorWalkX
import Derived.Test.YtcenglbcibkniaaDoorNumU
import Derived.Laws.CopyOwn
namespace Go.Proofs.YtcenglbcibkniaaDoor
open Go.RowKit
theorem made_n (n : Nat) (hn : n ≤ 1048576) (w : World) : (Instr.makeSlice 24 (.int .i64 (n : Int)) (.int .i64 (n : Int))).run Tryd.prog w = .ok (.slice (some ⟨w.heap.size, 0, none⟩) n n) (w.alloc (.cells (madeCells #[.int .i64 0] n) 3)) :=
  run_make_row' (P := Tryd.prog) 24 3 (.int .i64 0) 8 Tryd.underlying24 info3 rfl .i64 .i64 n (by omega) (by omega) w
theorem made_s (m : Nat) (hm : m + 1 ≤ 1048576) (w : World) : (Instr.makeSlice 24 (.int .i64 ((m : Int) + 1)) (.int .i64 ((m : Int) + 1))).run Tryd.prog w = .ok (.slice (some ⟨w.heap.size, 0, none⟩) (m + 1) (m + 1)) (w.alloc (.cells (madeCells #[.int .i64 0] (m + 1)) 3)) := by
  have := made_n (m + 1) hm w
  rwa [show ((m + 1 : Nat) : Int) = (m : Int) + 1 from rfl] at this
theorem made_len (n : Nat) : (madeCells #[.int .i64 0] n).toList.length = n := by simp [size_madeCells]
theorem size3 : (Tryd.prog.info? 3).map (·.size) = some 1 := by kernel_rfl
theorem xsF_len (F : Nat → Int) (n : Nat) : (xsF F n).length = n := by simp [xsF]
theorem xsF_at {F : Nat → Int} {n j : Nat} {v : Value} (h : (xsF F n)[j]? = some v) : j < n ∧ v = .int .i64 (F j) := by
  unfold xsF at h
  rw [List.getElem?_map] at h
  by_cases hj : j < n
  · rw [List.getElem?_range hj] at h
    simp at h
    exact ⟨hj, h.symm⟩
  · rw [List.getElem?_eq_none (by simp; omega)] at h
    cases h
theorem xsF_one {F : Nat → Int} {n : Nat} : ∀ v ∈ xsF F n, v.oneCell' = true := by
  intro v hv
  unfold xsF at hv
  obtain ⟨j, _, rfl⟩ := List.mem_map.1 hv
  rfl
theorem own_splice {w : World} {g N off k : Nat} {F : Nat → Int} (hN : off + k ≤ N) (h : w.heap[g]? = some (.cells (splice (madeCells #[.int .i64 0] N).toList off (xsF F k)).toArray 3 (0, 0))) : Own w g N (fun j => if off ≤ j ∧ j < off + k then F (j - off) else 0) := by
  have hl := made_len N
  refine ⟨_, h, ?_, fun j hj => ?_⟩
  · rw [List.size_toArray, length_splice _ _ _ (by rw [xsF_len, hl]; exact hN), hl]
  · have hz : (madeCells #[.int .i64 0] N).toList[j]? = some (.int .i64 0) := by
      have := World.rowIs_made default (.int .i64 0) N 3
      obtain ⟨cur, h1, h2, h3⟩ := this
      have e : cur = madeCells #[.int .i64 0] N := by
        have h5 : ((default : World).alloc (.cells (madeCells #[.int .i64 0] N) 3)).heap[(default : World).heap.size]? = some (.cells (madeCells #[.int .i64 0] N) 3) := by unfold World.alloc; simp
        rw [h5] at h1
        injection h1 with h1
        injection h1 with h1
        exact h1.symm
      subst e
      have := h3 j hj
      simpa using this
    have ht : (List.take off (madeCells #[.int .i64 0] N).toList).length = off := by rw [List.length_take, hl]; omega
    show (splice (madeCells #[.int .i64 0] N).toList off (xsF F k)).toArray[j]? = _
    rw [List.getElem?_toArray]
    unfold splice
    by_cases h1 : j < off
    · rw [List.getElem?_append_left (by omega), List.getElem?_take_of_lt h1, hz]
      simp [show ¬ off ≤ j by omega]
    · rw [List.getElem?_append_right (by omega), ht]
      by_cases h2 : j < off + k
      · rw [List.getElem?_append_left (by rw [xsF_len]; omega)]
        simp [xsF, show j - off < k by omega, show off ≤ j by omega, h2]
      · rw [List.getElem?_append_right (by rw [xsF_len]; omega), List.getElem?_drop, xsF_len, show off + k + (j - off - k) = j by omega, hz]
        simp [h2]
theorem wpList_copy_made {w : World} {ops : Array Oper} {rest : List Oper} {o : Oper} {a : Act} {Q : Exit → Act → World → Prop} (hgd : o.guard = none) (d s : Operand)
    (ho : o.op = .call { callee := .builtin .copy, args := #[d, s], argTypes := #[24, 24] }) (N off k cap1 m cap2 : Nat) (dp a2 : Option Addr) (F : Nat → Int)
    (hd : a.eval d = .slice dp k cap1) (hs : a.eval s = .slice a2 m cap2) (hdp : 0 < k → dp = some ⟨w.heap.size, off, none⟩) (hkm : k ≤ m) (hN : off + k ≤ N) (hsrc : Src w a2 m F)
    (h : ∀ w', Hid (Own w' w.heap.size N (fun j => if off ≤ j ∧ j < off + k then F (j - off) else 0)) → Below w.heap.size w w' → wpList Tryd.prog ops Q rest (a.put o.dst (goInt k)) w') :
    wpList Tryd.prog ops Q (o :: rest) a (w.alloc (.cells (madeCells #[.int .i64 0] N) 3)) := by
  refine wpList_copy_splice hgd d s 24 24 ho 3 Tryd.underlying24 size3 dp a2 k cap1 m cap2 hd hs w.heap.size off (madeCells #[.int .i64 0] N).toList 3 (by unfold World.alloc; simp) (xsF F k) (by rw [xsF_len]; exact (Nat.min_eq_right hkm).symm) ?_ (by rw [xsF_len, made_len]; exact hN) xsF_one w.heap.size w ((Below.refl _ _).alloc (Nat.le_refl _) _) (Nat.le_refl _) (fun w' hg hb => ?_)
  · intro hpos
    rw [xsF_len] at hpos
    refine ⟨hdp hpos, ?_⟩
    rcases hsrc with hz | ⟨b, off2, rfl, hlt, hc⟩
    · omega
    · refine ⟨_, rfl, fun j v hv => ?_⟩
      obtain ⟨hj, rfl⟩ := xsF_at hv
      rw [add_at]
      exact (((Below.refl _ w).alloc (Nat.le_refl _) _).cell (p := ⟨b, off2 + j, none⟩) hlt).trans (hc j (by omega))
  · rw [xsF_len]
    exact h w' (Lib.hid (own_splice hN hg.out)) hb
/-- A list in a new block of its very size. -/
def OwnG (w : World) (l : List Int) (e : Ending) (w' : World) : Prop := ∃ g, e = .returned (.slice (some ⟨g, 0, none⟩) l.length l.length) ∧ w.heap.size ≤ g ∧ Own w' g l.length (lf l) ∧ Below w.heap.size w w'
theorem OwnG.own {w w' : World} {l : List Int} {e : Ending} (h : OwnG w l e w') : OwnL w l e w' := by
  obtain ⟨g, rfl, hg, ho, hb⟩ := h
  exact ⟨_, _, rfl, .inr ⟨g, rfl, rfl, hg, ho⟩, hb⟩
theorem OwnG.up {u w w' : World} {l : List Int} {e : Ending} (h : OwnG w l e w') (hb : Below u.heap.size u w) : OwnG u l e w' := by
  obtain ⟨g, rfl, hg, ho, h2⟩ := h
  exact ⟨g, rfl, Nat.le_trans hb.size hg, ho, below_up hb h2 hb.size⟩
theorem OwnG.of_own {w w' : World} {g n : Nat} {F : Nat → Int} {l : List Int} (h : Own w' g n F) (hn : n = l.length) (hB : w.heap.size ≤ g) (e : ∀ j, j < n → F j = lf l j) (hb : Below w.heap.size w w') : OwnG w l (.returned (.slice (some ⟨g, 0, none⟩) n n)) w' := by
  subst hn
  exact ⟨g, rfl, hB, own_congr h rfl e, hb⟩
theorem cutL_at {n : Nat} {F : Nat → Int} {j : Nat} (h : j < cutN F n) : F j = lf (cutL n F) j := by
  rw [lf_cutL, if_pos (Nat.lt_of_lt_of_le h (cutN_le F n))]
set_option maxRecDepth 100000 in
set_option maxHeartbeats 1600000 in
theorem poly_some (b off n cap : Nat) (F : Nat → Int) (w : World) (hn : n ≤ 1048576) (hlt : b < w.heap.size) (hc : ∀ j, j < n → w.cell? ⟨b, off + j, none⟩ = some (.int .i64 (F j))) :
    Calls Tryd.prog 59 #[.slice (some ⟨b, off, none⟩) n cap] w (OwnG w (cutL n F)) := by
  have HC := Lib.hid hc
  clear hc
  have HT : Hid (∀ k : Nat, k ≤ n → cutN F n = k → ∀ w2 : World, Own w2 w.heap.size k F → Below w.heap.size w w2 → OwnG w (cutL n F) (.returned (.slice (some ⟨w.heap.size, 0, none⟩) k k)) w2) := Lib.hid (fun k hk e w2 ho hb => by
    subst e
    exact OwnG.of_own ho (cutL_len n F).symm (Nat.le_refl _) (fun j hj => cutL_at hj) hb)
  go_enter Tryd.func59, Tryd.ntmps59
  go_wp2_with fail
  go_loop [3] (fun i => ∃ k : Nat, i = .int .i64 k ∧ k ≤ n ∧ Hid (cutN F n = cutN F k)) (fun i => (intOf i).toNat)
  case atStart => exact ⟨n, rfl, Nat.le_refl _, Lib.hid rfl⟩
  case round =>
    obtain ⟨k, rfl, hk, HK⟩ := hrel
    by_cases h1 : 0 < k
    · obtain ⟨m, rfl⟩ : ∃ m, k = m + 1 := ⟨k - 1, by omega⟩
      have c1 : w.cell? ⟨b, off + m, none⟩ = some (.int .i64 (F m)) := HC.out m (by omega)
      by_cases h2 : F m = 0
      · have HK2 : Hid (cutN F n = cutN F m) := Lib.hid (HK.out.trans (by rw [cutN, if_pos h2]))
        have e2 : (F m == 0) = true := by simp [h2]
        clear h2 HK
        go_wp2
        go_round
        case rel => exact ⟨m, by go_num, by omega, HK2⟩
        case measure => simp [intOf] <;> omega
      · have HK2 : Hid (cutN F n = m + 1) := Lib.hid (HK.out.trans (by rw [cutN, if_neg h2]))
        have e2 : (F m == 0) = false := by simp [h2]
        have hmk := made_s m (by omega)
        clear h2 HK
        have HS : Hid (Src w (some ⟨b, off, none⟩) n F) := Lib.hid (.inr ⟨b, off, rfl, hlt, HC.out⟩)
        go_wp2_with (with_reducible refine wpList_copy_made rfl _ _ rfl (m + 1) 0 (m + 1) (m + 1) n cap _ _ F rfl rfl (fun _ => rfl) hk (by omega) HS.out ?_)
        intro w2 HO hb
        have HO := Lib.hid (own_congr HO.out rfl (fun j hj => show _ = F j by simp [hj]))
        clear hmk
        go_wp2
        go_ret
        exact HT.out (m + 1) hk HK2.out w2 HO.out hb
    · obtain rfl : k = 0 := by omega
      have HK2 : Hid (cutN F n = 0) := Lib.hid (HK.out.trans rfl)
      have hmk := made0
      clear HK h1
      go_wp2_with (with_reducible refine wpList_copy_nothing rfl _ _ 24 24 rfl 3 Tryd.underlying24 size3 _ _ _ _ _ _ rfl rfl (by simp [Nat.min_def]) ?_)
      clear hmk
      go_wp2
      go_ret
      exact HT.out 0 (Nat.zero_le _) HK2.out _ (own_congr (World.rowIs_made w (.int .i64 0) 0 3) rfl (fun j hj => by omega)) ((Below.refl _ _).alloc (Nat.le_refl _) _)
theorem poly_none (a : Option Addr) (cap : Nat) (F : Nat → Int) (w : World) : Calls Tryd.prog 59 #[.slice a 0 cap] w (OwnG w (cutL 0 F)) := by
  have hmk := made0
  go_enter Tryd.func59, Tryd.ntmps59
  go_wp2
  refine wp_loop_rounds 1 ?_
  rw [rounds_succ]
  go_wp2_with (with_reducible refine wpList_copy_nothing rfl _ _ 24 24 rfl 3 Tryd.underlying24 size3 _ _ _ _ _ _ rfl rfl (by simp [Nat.min_def]) ?_)
  clear hmk
  go_wp2
  go_ret
  exact OwnG.of_own (World.rowIs_made w (.int .i64 0) 0 3) (cutL_len 0 F).symm (Nat.le_refl _) (fun j hj => by omega) ((Below.refl _ _).alloc (Nat.le_refl _) _)
theorem poly_c (a : Option Addr) (n cap : Nat) (F : Nat → Int) (w : World) (hn : n ≤ 1048576) (hs : Src w a n F) : Calls Tryd.prog 59 #[.slice a n cap] w (OwnG w (cutL n F)) := by
  rcases hs with rfl | ⟨b, off, rfl, hlt, hc⟩
  · exact poly_none a cap F w
  · exact poly_some b off n cap F w hn hlt hc
end Go.Proofs.YtcenglbcibkniaaDoor
