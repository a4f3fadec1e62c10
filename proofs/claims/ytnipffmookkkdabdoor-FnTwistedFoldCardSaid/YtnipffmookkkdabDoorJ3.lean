/-
  Texts of the proofs of this seat, joined (part 3).
-/
import Derived.StillTailTactics
import Derived.Shelf.Small.Bits
import Derived.Test.YtnipffmookkkdabDoorProg
import Derived.Deep.RegionHeld3
import Derived.Lib.ItoaNum
import Derived.Deep.CutBlock
import Derived.Deep.CutRange
import Derived.Outline
import Derived.Test.YtnipffmookkkdabDoorJ2
namespace Go.Proofs.YtnipffmookkkdabDoor
open Go.RowKit
/-- A row of words. -/
def RowW (K : IntKind) (t : TypeId) (w : World) (g n : Nat) (F : Nat → Int) : Prop := w.rowIs g t n (fun j => .int K (F j))
theorem RowW.cell {K : IntKind} {t : TypeId} {w : World} {g n : Nat} {F : Nat → Int} (h : RowW K t w g n F) {j : Nat} (hj : j < n) : w.cell? ⟨g, j, none⟩ = some (.int K (F j)) := World.rowIs.cell h hj
theorem RowW.frozen {K : IntKind} {t : TypeId} {w : World} {g n : Nat} {F : Nat → Int} (h : RowW K t w g n F) (j : Nat) : w.frozen? ⟨g, j, none⟩ = false := World.rowIs.frozen h j
theorem RowW.lt {K : IntKind} {t : TypeId} {w : World} {g n : Nat} {F : Nat → Int} (h : RowW K t w g n F) : g < w.heap.size := World.rowIs.lt h
theorem RowW.congr {K : IntKind} {t : TypeId} {w : World} {g n : Nat} {F G : Nat → Int} (h : RowW K t w g n F) (e : ∀ j, j < n → F j = G j) : RowW K t w g n G := World.rowIs.congr h fun j hj => by rw [e j hj]
theorem RowW.set {K : IntKind} {t : TypeId} {w : World} {g n : Nat} {F : Nat → Int} (h : RowW K t w g n F) (s : Nat) (x : Int) : RowW K t (w.setCell ⟨g, s, none⟩ (.int K x)) g n (fun j => if j = s then x else F j) :=
  (World.rowIs.set h s (.int K x)).congr fun j _ => by show (if j = s then Value.int K x else Value.int K (F j)) = Value.int K (if j = s then x else F j); split <;> rfl
theorem RowW.other {K : IntKind} {t : TypeId} {w w' : World} {g r n : Nat} {F : Nat → Int} (h : RowW K t w r n F) (hg : w.grownBy w' (some g)) (hne : r ≠ g) : RowW K t w' r n F :=
  World.rowIs.of_block h (hg.block r h.lt (fun e => hne (by injection e)))
theorem RowW.keep {K : IntKind} {t : TypeId} {w w' : World} {g n : Nat} {F : Nat → Int} (h : RowW K t w g n F) (hb : Below w.heap.size w w') : RowW K t w' g n F := World.rowIs.of_block h (hb.block g h.lt)
theorem grown_refl (w : World) (g : Nat) : w.grownBy w (some g) := ⟨rfl, rfl, rfl, Nat.le_refl _, fun _ _ _ => rfl⟩
theorem grown_put {w wr : World} {g i : Nat} {v : Value} (h : w.grownBy wr (some g)) : w.grownBy (wr.setCell ⟨g, i, none⟩ v) (some g) :=
  grown_set h i v
theorem grown_drews {w wr : World} {g : Nat} (h : w.grownBy wr (some g)) (n : Nat) : w.grownBy (wr.drewN n) (some g) := ⟨h.os, h.tape, h.output, h.size, h.block⟩
theorem grown_cell {w wr : World} {g b o : Nat} (h : w.grownBy wr (some g)) (hlt : b < w.heap.size) (hne : b ≠ g) : wr.cell? ⟨b, o, none⟩ = w.cell? ⟨b, o, none⟩ :=
  World.cell?_of_block (a := ⟨b, o, none⟩) (h.block b hlt (fun e => hne (by injection e)))
theorem mul_le_sq {a b M : Int} (a0 : 0 ≤ a) (a1 : a ≤ M) (b0 : 0 ≤ b) (b1 : b ≤ M) : a * b ≤ M * M := Int.mul_le_mul a1 b1 b0 (by omega)
/-- A slice of a slice that starts at a block's head, with all three indices. -/
theorem slice_3 {P : Program} {t e : TypeId} {z : Value} {by' : Nat} (hu : P.underlying t = some (.slice e)) (hinfo : (P.info? e).map (fun i => (i.zero, i.size, i.bytes)) = some (some z, 1, by')) (g lo hi k n cap : Nat) (vh vl : Int) (e1 : vl = (lo : Int)) (e2 : vh = (hi : Int)) (hk : hi = lo + k) (k0 : 0 < k) (hc : hi ≤ cap) (w : World) :
    (Instr.slice t (.slice (some ⟨g, 0, none⟩) n cap) (some (.int .i64 vl)) (some (.int .i64 vh)) (some (.int .i64 vh))).run P w = .ok (.slice (some ⟨g, lo, none⟩) k k) w := by
  subst e1 e2 hk
  obtain ⟨i, hi, hzz⟩ := Option.map_eq_some_iff.1 hinfo
  simp only [Prod.mk.injEq] at hzz
  have hm2 : ¬ k = 0 := by omega
  have b1 : (0 : Int) ≤ (lo : Int) + k ∧ (lo : Int) + k ≤ cap := by omega
  have b3 : ((lo : Int) + k).toNat = lo + k := by omega
  simp [Instr.slice, run_underlying hu, Instr.sliceBounds, Instr.sliceBound, asIntOf, sizeOf, typeInfo, hi, hzz.2.1, b1, b3, hm2, Addr.add_lit, Nat.add_sub_cancel_left]
theorem info_uint32 : (Tryd.prog.info? 64).map (fun i => (i.zero, i.size, i.bytes)) = some (some (.int .u32 0), 1, 4) := by kernel_rfl
set_option maxRecDepth 100000 in
set_option maxHeartbeats 1600000 in
theorem fill_uint32 (t : TypeId) (g n N b off cap : Nat) (A F : Nat → Int) (w : World) (hg : RowW .u32 t w g N A) (hnN : n ≤ N) (hN : N ≤ 1048576) (hne : b ≠ g) (hlt : b < w.heap.size) (hF : ∀ j, 0 ≤ F j ∧ F j ≤ 4294967295)
    (hc : ∀ j, j < n → w.cell? ⟨b, off + j, none⟩ = some (.int .i64 (F j))) :
    Calls Tryd.prog 102 #[.slice (some ⟨g, 0, none⟩) n n, .slice (some ⟨b, off, none⟩) n cap] w fun e w' => e = .returned (.tuple #[]) ∧ RowW .u32 t w' g N (fun j => if j < n then F j else A j) ∧ w.grownBy w' (some g) := by
  have HC := Lib.hid hc
  have HF := Lib.hid hF
  clear hc hF
  go_enter Tryd.func102, Tryd.ntmps102
  go_wp2_with fail
  go_loopw [4, 5, 8] (fun _ _ i wr => ∃ k : Nat, i = .int .i64 k ∧ k ≤ n ∧ RowW .u32 t wr g N (fun j => if j < k then F j else A j) ∧ w.grownBy wr (some g)) (fun _ _ i _ => n - (intOf i).toNat)
  case atStart => exact ⟨0, rfl, Nat.zero_le _, hg.congr fun j _ => by simp, grown_refl w g⟩
  case round =>
    clear hg
    obtain ⟨k, rfl, hk, ho, hb⟩ := hrel
    by_cases h1 : k < n
    · have c1 : wr.cell? ⟨b, off + k, none⟩ = some (.int .i64 (F k)) := (grown_cell hb hlt hne).trans (HC.out k h1)
      have hd1 : decide ((k : Int) < n) = true := decide_eq_true (by omega)
      have c2 := ho.cell (show k < N by omega)
      have c3 := ho.frozen k
      have hf := HF.out k
      have q1 : IntKind.u32.wrap (F k) = F k := IntWalk.u32_in _ (by omega)
      have HS : Hid (RowW .u32 t (wr.setCell ⟨g, k, none⟩ (.int .u32 (F k))) g N (fun j => if j < k + 1 then F j else A j)) := Lib.hid ((ho.set k (F k)).congr fun j _ => by
        by_cases e : j = k
        · subst e; simp
        · by_cases e2 : j < k
          · simp [e, e2, show j < k + 1 by omega]
          · simp [e, e2, show ¬ j < k + 1 by omega])
      have HG := Lib.hid (grown_put (i := k) (v := .int .u32 (F k)) hb)
      clear ho hb hf
      go_wp2
      go_roundw
      case rel => exact ⟨k + 1, by go_num, by omega, HS.out, HG.out⟩
      case measure => simp [intOf]; omega
    · have hd1 : decide ((k : Int) < n) = false := decide_eq_false (by omega)
      obtain rfl : k = n := by omega
      go_wp2
      go_end0
      exact ⟨rfl, ho, hb⟩
set_option maxRecDepth 100000 in
set_option maxHeartbeats 6400000 in
theorem butter_uint32 (f x : Int) (t : TypeId) (g r n N h d : Nat) (A R : Nat → Int) (w : World) (h0 : 0 ≤ f) (h8 : f ≤ 8) (hP : P f < 65536) (hg : RowW .u32 t w g N A) (hr : RowW .u32 t w r N R) (hgr : r ≠ g) (hnN : n ≤ N) (hN : N ≤ 512) (hpos : 0 < h) (hnd : n = d * (2 * h)) (n0 : 0 < n)
    (hA : ∀ j, j < n → 0 ≤ A j ∧ A j < P f) (hR : ∀ j, j < n → R j = x ^ j % P f) :
    Calls Tryd.prog 104 #[.slice (some ⟨g, 0, none⟩) n n, .slice (some ⟨r, 0, none⟩) n n, .int .u32 (P f), .int .i64 h] w fun e w' => e = .returned (.tuple #[]) ∧ RowW .u32 t w' g N (stp f x h d A d 0) ∧ w.grownBy w' (some g) := by
  have hp := P_bd h0 h8
  have HND := Lib.hid hnd
  have d0 : 0 < d := by
    rcases Nat.eq_zero_or_pos d with hz | hz
    · rw [hz, Nat.zero_mul] at hnd; omega
    · exact hz
  have hhn : 2 * h ≤ n := by rw [hnd]; exact Nat.le_mul_of_pos_left _ d0
  have td0 : (n : Int).tdiv (2 * (h : Int)) = d := by
    rw [show 2 * (h : Int) = ((2 * h : Nat) : Int) by omega, Int.tdiv_eq_ediv_of_nonneg (by omega), ← Int.natCast_ediv, hnd, Nat.mul_div_cancel _ (by omega)]
  have td1 : (n : Int) / (2 * (h : Int)) = d := by rw [← td0, Int.tdiv_eq_ediv_of_nonneg (by omega)]
  have hz2 : (2 * (h : Int) == 0) = false := by rw [beq_eq_false_iff_ne]; omega
  have hz3 : ¬ 2 * (h : Int) = 0 := by omega
  have qd : IntKind.i64.wrap (2 * (h : Int)) = 2 * (h : Int) := IntWalk.i64_in _ (by omega)
  have hdn : d ≤ n := by rw [hnd]; exact Nat.le_mul_of_pos_right _ (by omega)
  have HA := Lib.hid hA
  have HRR := Lib.hid hR
  have HG0 := Lib.hid hg
  have HR0 := Lib.hid hr
  have hrlt := hr.lt
  clear hnd hA hR hg hr
  go_enter Tryd.func104, Tryd.ntmps104
  go_wp2_with fail
  go_loopw [9, 10, 11, 12, 13, 14, 52] (fun i _ _ _ _ _ _ wr => ∃ B : Nat, i = .int .i64 ((B * (2 * h) : Nat) : Int) ∧ B ≤ d ∧ RowW .u32 t wr g N (stp f x h d A B 0) ∧ w.grownBy wr (some g)) (fun i _ _ _ _ _ _ _ => n - (intOf i).toNat)
  case atStart => exact ⟨0, by simp, Nat.zero_le _, HG0.out.congr fun j _ => (stp_start f x h d A j).symm, grown_refl w g⟩
  case round =>
    clear HG0 td0 td1
    obtain ⟨B, rfl, hB, ho, hb⟩ := hrel
    by_cases h1 : B < d
    · have hBn : B * (2 * h) + 2 * h ≤ n := by
        have := Nat.mul_le_mul_right (2 * h) (show B + 1 ≤ d by omega)
        rw [Nat.add_mul, Nat.one_mul, ← HND.out] at this
        exact this
      have hd1 : decide (((B * (2 * h) : Nat) : Int) < n) = true := decide_eq_true (by omega)
      obtain ⟨I, hI⟩ : ∃ I, B * (2 * h) = I := ⟨_, rfl⟩
      have HNX : Hid (((I + 2 * h : Nat) : Int) = (((B + 1) * (2 * h) : Nat) : Int)) := Lib.hid (by rw [Nat.add_mul, Nat.one_mul, hI])
      have HOI := Lib.hid ho
      have HRD : Hid (∀ j, j < h → stp f x h d A B j (I + j) = A (I + j) ∧ stp f x h d A B j (I + j + h) = A (I + j + h)) := Lib.hid fun j hj => by rw [← hI]; exact stp_read hj
      have HST : Hid (∀ j, j < h → ∀ t, (if t = I + j + h then RS (A (I + j) - RS (A (I + j + h) * x ^ (j * d)) (P f)) (P f) else if t = I + j then RS (A (I + j) + RS (A (I + j + h) * x ^ (j * d)) (P f)) (P f) else stp f x h d A B j t) = stp f x h d A B (j + 1) t) := Lib.hid fun j hj t => by
        have := stp_step (f := f) (w := x) (d := d) (V := A) (B := B) hj t
        rw [stp_low hj, stp_high hj, hI] at this
        exact this
      have HFULL : Hid (∀ t, stp f x h d A B h t = stp f x h d A (B + 1) 0 t) := Lib.hid fun t => stp_next f x d A B t hpos
      clear ho
      rw [hI] at hd1 hBn ⊢
      clear hI
      have hIn : I < n := by omega
      have u1 : IntKind.i64.wrap ((I : Int) + h) = (I : Int) + h := IntWalk.i64_in _ (by omega)
      have u2 : IntKind.i64.wrap ((I : Int) + 2 * h) = (I : Int) + 2 * h := IntWalk.i64_in _ (by omega)
      have sl0 : ∀ w, (Instr.slice 80 (.slice (some ⟨g, 0, none⟩) n n) (some (.int .i64 I)) (some (.int .i64 ((I : Int) + h))) (some (.int .i64 ((I : Int) + h)))).run Tryd.prog w = .ok (.slice (some ⟨g, I, none⟩) h h) w := fun w => slice_3 Tryd.underlying80 info_uint32 g I (I + h) h n n _ _ (by omega) (by omega) (by omega) (by omega) (by omega) w
      have sl1 : ∀ w, (Instr.slice 80 (.slice (some ⟨g, 0, none⟩) n n) (some (.int .i64 ((I : Int) + h))) (some (.int .i64 ((I : Int) + 2 * h))) (some (.int .i64 ((I : Int) + 2 * h)))).run Tryd.prog w = .ok (.slice (some ⟨g, I + h, none⟩) h h) w := fun w => slice_3 Tryd.underlying80 info_uint32 g (I + h) (I + 2 * h) h n n _ _ (by omega) (by omega) (by omega) (by omega) (by omega) w
      go_wp2_with fail
      clear sl0 sl1
      go_loopw [12, 13, 14, 52] (fun _ _ _ jj W => ∃ j : Nat, jj = .int .i64 j ∧ j ≤ h ∧ RowW .u32 t W g N (stp f x h d A B j) ∧ w.grownBy W (some g)) (fun _ _ _ jj _ => h - (intOf jj).toNat)
      case atStart => exact ⟨0, rfl, Nat.zero_le _, HOI.out, hb⟩
      case round =>
        clear HOI hb
        obtain ⟨j, rfl, hj, ho, hb⟩ := hrel
        by_cases h2 : j < h
        · have hd2 : decide ((j : Int) < h) = true := decide_eq_true (by omega)
          have hrd := HRD.out j h2
          have c1 : wr.cell? ⟨g, I + j, none⟩ = some (.int .u32 (A (I + j))) := by rw [ho.cell (show I + j < N by omega), hrd.1]
          have c2 : wr.cell? ⟨g, I + h + j, none⟩ = some (.int .u32 (A (I + j + h))) := by rw [show I + h + j = I + j + h by omega, ho.cell (show I + j + h < N by omega), hrd.2]
          have hjd : j * d < n := by
            have : j * d < 2 * h * d := Nat.mul_lt_mul_of_pos_right (by omega) d0
            rw [Nat.mul_comm (2 * h) d, ← HND.out] at this
            exact this
          have c3 : wr.cell? ⟨r, j * d, none⟩ = some (.int .u32 (x ^ (j * d) % P f)) := by rw [(HR0.out.other hb hgr).cell (show j * d < N by omega), HRR.out _ hjd]
          have b1 := HA.out (I + j) (by omega)
          have b2 := HA.out (I + j + h) (by omega)
          have b3 : 0 ≤ x ^ (j * d) % P f ∧ x ^ (j * d) % P f < P f := ⟨Int.emod_nonneg _ (by omega), Int.emod_lt_of_pos _ (by omega)⟩
          have hY : RS (A (I + j + h) * (x ^ (j * d) % P f)) (P f) = RS (A (I + j + h) * x ^ (j * d)) (P f) := by unfold RS; exact emod_mul_congr rfl (Int.emod_emod_of_dvd _ (Int.dvd_refl _))
          have HSTj := Lib.hid (HST.out j h2)
          have jdn : ((j : Int) * d) = ((j * d : Nat) : Int) := by rw [Int.natCast_mul]
          have v1 : IntKind.i64.wrap ((j : Int) * d) = (j : Int) * d := IntWalk.i64_in _ (by omega)
          have v2 : (0 : Int) ≤ (j : Int) * d := by omega
          have v3 : (j : Int) * d < n := by omega
          have v4 : ((j : Int) * d).toNat = j * d := by omega
          clear jdn hjd
          have ho2 : RowW .u32 t wr g N (stp f x h d A B j) := ho
          clear ho
          obtain ⟨X, hX⟩ : ∃ X, A (I + j) = X := ⟨_, rfl⟩
          obtain ⟨Y0, hY0⟩ : ∃ Y0, A (I + j + h) = Y0 := ⟨_, rfl⟩
          obtain ⟨R0, hR0⟩ : ∃ R0, x ^ (j * d) % P f = R0 := ⟨_, rfl⟩
          rw [hX] at c1 b1
          rw [hY0] at c2 b2 hY
          rw [hR0] at c3 b3 hY
          rw [hX, hY0] at HSTj
          rw [← hY] at HSTj
          clear hX hY0 hR0 hY hrd
          have m0 : 0 ≤ Y0 * R0 := Int.mul_nonneg b2.1 b3.1
          have m1 : Y0 * R0 ≤ 65535 * 65535 := mul_le_sq b2.1 (by omega) b3.1 (by omega)
          have hb2 : 0 ≤ RS (Y0 * R0) (P f) ∧ RS (Y0 * R0) (P f) < P f := RS_bd (by omega)
          have t1 : (Y0 * R0).tmod (P f) = RS (Y0 * R0) (P f) := by rw [Int.tmod_eq_emod_of_nonneg m0]; rfl
          have t1' : (Y0 * R0) % (P f) = RS (Y0 * R0) (P f) := rfl
          have k1 : IntKind.u32.wrap (Y0 * R0) = Y0 * R0 := IntWalk.u32_in _ (by omega)
          have pz : (P f == 0) = false := by rw [beq_eq_false_iff_ne]; omega
          have pz2 : ¬ P f = 0 := by omega
          generalize RS (Y0 * R0) (P f) = Y at *
          have k2 : IntKind.u32.wrap Y = Y := IntWalk.u32_in _ (by omega)
          have k3 : IntKind.u32.wrap (X + Y) = X + Y := IntWalk.u32_in _ (by omega)
          have k4 : IntKind.u32.wrap (X + P f) = X + P f := IntWalk.u32_in _ (by omega)
          have k5 : IntKind.u32.wrap (X + P f - Y) = X + P f - Y := IntWalk.u32_in _ (by omega)
          have e1 : (X + Y).tmod (P f) = RS (X + Y) (P f) := by rw [Int.tmod_eq_emod_of_nonneg (by omega)]; rfl
          have e1' : (X + Y) % (P f) = RS (X + Y) (P f) := rfl
          have e2' : (X + P f - Y) % (P f) = RS (X - Y) (P f) := by unfold RS; rw [show X + P f - Y = X - Y + P f by omega, Int.add_emod_right]
          have e2 : (X + P f - Y).tmod (P f) = RS (X - Y) (P f) := by rw [Int.tmod_eq_emod_of_nonneg (by omega), e2']
          have l1 : 0 ≤ RS (X + Y) (P f) ∧ RS (X + Y) (P f) < P f := RS_bd (by omega)
          have l2 : 0 ≤ RS (X - Y) (P f) ∧ RS (X - Y) (P f) < P f := RS_bd (by omega)
          have k6 : IntKind.u32.wrap (RS (X + Y) (P f)) = RS (X + Y) (P f) := IntWalk.u32_in _ (by omega)
          have k7 : IntKind.u32.wrap (RS (X - Y) (P f)) = RS (X - Y) (P f) := IntWalk.u32_in _ (by omega)
          clear m0 m1
          go_wp2
          go_quiet (fail)
          have how2 : RowW .u32 t (wr.drewN nq) g N (stp f x h d A B j) := ho2
          have hgb2 := grown_drews hb nq
          clear c1 c2 c3 hb ho2 t1 t1' k1
          generalize wr.drewN nq = W2 at *
          have cI := how2.cell (show I + j < N by omega)
          have fI := how2.frozen (I + j)
          have how3 := how2.set (I + j) (RS (X + Y) (P f))
          have hgb3 := grown_put (i := I + j) (v := .int .u32 (RS (X + Y) (P f))) hgb2
          obtain ⟨W3, hW3⟩ : ∃ W3, W2.setCell ⟨g, I + j, none⟩ (.int .u32 (RS (X + Y) (P f))) = W3 := ⟨_, rfl⟩
          have HW3 := Lib.hid hW3
          rw [hW3] at how3 hgb3
          have cH := how3.cell (show I + j + h < N by omega)
          have fH := how3.frozen (I + j + h)
          have HOW4 : Hid (RowW .u32 t (W3.setCell ⟨g, I + h + j, none⟩ (.int .u32 (RS (X - Y) (P f)))) g N (stp f x h d A B (j + 1))) := Lib.hid (by
            rw [show I + h + j = I + j + h by omega]
            exact (how3.set (I + j + h) (RS (X - Y) (P f))).congr fun t _ => HSTj.out t)
          have HB4 := Lib.hid (grown_put (i := I + h + j) (v := .int .u32 (RS (X - Y) (P f))) hgb3)
          rw [show I + j + h = I + h + j by omega] at cH fH
          clear how2 how3 hgb2 hgb3 HSTj
          go_wp2_with (rw [hW3])
          go_roundw
          case rel => exact ⟨j + 1, by go_num, by omega, HOW4.out, HB4.out⟩
          case measure => simp [intOf]; omega
        · have hd2 : decide ((j : Int) < h) = false := decide_eq_false (by omega)
          obtain rfl : j = h := by omega
          have HOF : Hid (RowW .u32 t wr g N (stp f x j d A (B + 1) 0)) := Lib.hid (ho.congr fun t _ => HFULL.out t)
          clear ho HFULL HST HRD
          go_wp2
          go_roundw
          case rel => exact ⟨B + 1, vint (by rw [← HNX.out]; omega), by omega, HOF.out, hb⟩
          case measure => simp [intOf]; omega
    · have hBd : B = d := by omega
      subst hBd
      have hBn : B * (2 * h) = n := HND.out.symm
      have hd1 : decide ((n : Int) < n) = false := decide_eq_false (by omega)
      rw [hBn]
      clear hBn
      go_wp2
      go_end0
      exact ⟨rfl, ho, hb⟩
theorem info_uint64 : (Tryd.prog.info? 66).map (fun i => (i.zero, i.size, i.bytes)) = some (some (.int .u64 0), 1, 8) := by kernel_rfl
set_option maxRecDepth 100000 in
set_option maxHeartbeats 1600000 in
theorem fill_uint64 (t : TypeId) (g n N b off cap : Nat) (A F : Nat → Int) (w : World) (hg : RowW .u64 t w g N A) (hnN : n ≤ N) (hN : N ≤ 1048576) (hne : b ≠ g) (hlt : b < w.heap.size) (hF : ∀ j, 0 ≤ F j ∧ F j ≤ 4294967295)
    (hc : ∀ j, j < n → w.cell? ⟨b, off + j, none⟩ = some (.int .i64 (F j))) :
    Calls Tryd.prog 105 #[.slice (some ⟨g, 0, none⟩) n n, .slice (some ⟨b, off, none⟩) n cap] w fun e w' => e = .returned (.tuple #[]) ∧ RowW .u64 t w' g N (fun j => if j < n then F j else A j) ∧ w.grownBy w' (some g) := by
  have HC := Lib.hid hc
  have HF := Lib.hid hF
  clear hc hF
  go_enter Tryd.func105, Tryd.ntmps105
  go_wp2_with fail
  go_loopw [4, 5, 8] (fun _ _ i wr => ∃ k : Nat, i = .int .i64 k ∧ k ≤ n ∧ RowW .u64 t wr g N (fun j => if j < k then F j else A j) ∧ w.grownBy wr (some g)) (fun _ _ i _ => n - (intOf i).toNat)
  case atStart => exact ⟨0, rfl, Nat.zero_le _, hg.congr fun j _ => by simp, grown_refl w g⟩
  case round =>
    clear hg
    obtain ⟨k, rfl, hk, ho, hb⟩ := hrel
    by_cases h1 : k < n
    · have c1 : wr.cell? ⟨b, off + k, none⟩ = some (.int .i64 (F k)) := (grown_cell hb hlt hne).trans (HC.out k h1)
      have hd1 : decide ((k : Int) < n) = true := decide_eq_true (by omega)
      have c2 := ho.cell (show k < N by omega)
      have c3 := ho.frozen k
      have hf := HF.out k
      have q1 : IntKind.u64.wrap (F k) = F k := IntWalk.u64_in _ (by omega)
      have HS : Hid (RowW .u64 t (wr.setCell ⟨g, k, none⟩ (.int .u64 (F k))) g N (fun j => if j < k + 1 then F j else A j)) := Lib.hid ((ho.set k (F k)).congr fun j _ => by
        by_cases e : j = k
        · subst e; simp
        · by_cases e2 : j < k
          · simp [e, e2, show j < k + 1 by omega]
          · simp [e, e2, show ¬ j < k + 1 by omega])
      have HG := Lib.hid (grown_put (i := k) (v := .int .u64 (F k)) hb)
      clear ho hb hf
      go_wp2
      go_roundw
      case rel => exact ⟨k + 1, by go_num, by omega, HS.out, HG.out⟩
      case measure => simp [intOf]; omega
    · have hd1 : decide ((k : Int) < n) = false := decide_eq_false (by omega)
      obtain rfl : k = n := by omega
      go_wp2
      go_end0
      exact ⟨rfl, ho, hb⟩
set_option maxRecDepth 100000 in
set_option maxHeartbeats 6400000 in
theorem butter_uint64 (f x : Int) (t : TypeId) (g r n N h d : Nat) (A R : Nat → Int) (w : World) (h0 : 0 ≤ f) (h8 : f ≤ 8) (hg : RowW .u64 t w g N A) (hr : RowW .u64 t w r N R) (hgr : r ≠ g) (hnN : n ≤ N) (hN : N ≤ 512) (hpos : 0 < h) (hnd : n = d * (2 * h)) (n0 : 0 < n)
    (hA : ∀ j, j < n → 0 ≤ A j ∧ A j < P f) (hR : ∀ j, j < n → R j = x ^ j % P f) :
    Calls Tryd.prog 106 #[.slice (some ⟨g, 0, none⟩) n n, .slice (some ⟨r, 0, none⟩) n n, .int .u64 (P f), .int .i64 h] w fun e w' => e = .returned (.tuple #[]) ∧ RowW .u64 t w' g N (stp f x h d A d 0) ∧ w.grownBy w' (some g) := by
  have hp := P_bd h0 h8
  have HND := Lib.hid hnd
  have d0 : 0 < d := by
    rcases Nat.eq_zero_or_pos d with hz | hz
    · rw [hz, Nat.zero_mul] at hnd; omega
    · exact hz
  have hhn : 2 * h ≤ n := by rw [hnd]; exact Nat.le_mul_of_pos_left _ d0
  have td0 : (n : Int).tdiv (2 * (h : Int)) = d := by
    rw [show 2 * (h : Int) = ((2 * h : Nat) : Int) by omega, Int.tdiv_eq_ediv_of_nonneg (by omega), ← Int.natCast_ediv, hnd, Nat.mul_div_cancel _ (by omega)]
  have td1 : (n : Int) / (2 * (h : Int)) = d := by rw [← td0, Int.tdiv_eq_ediv_of_nonneg (by omega)]
  have hz2 : (2 * (h : Int) == 0) = false := by rw [beq_eq_false_iff_ne]; omega
  have hz3 : ¬ 2 * (h : Int) = 0 := by omega
  have qd : IntKind.i64.wrap (2 * (h : Int)) = 2 * (h : Int) := IntWalk.i64_in _ (by omega)
  have hdn : d ≤ n := by rw [hnd]; exact Nat.le_mul_of_pos_right _ (by omega)
  have HA := Lib.hid hA
  have HRR := Lib.hid hR
  have HG0 := Lib.hid hg
  have HR0 := Lib.hid hr
  have hrlt := hr.lt
  clear hnd hA hR hg hr
  go_enter Tryd.func106, Tryd.ntmps106
  go_wp2_with fail
  go_loopw [9, 10, 11, 12, 13, 14, 52] (fun i _ _ _ _ _ _ wr => ∃ B : Nat, i = .int .i64 ((B * (2 * h) : Nat) : Int) ∧ B ≤ d ∧ RowW .u64 t wr g N (stp f x h d A B 0) ∧ w.grownBy wr (some g)) (fun i _ _ _ _ _ _ _ => n - (intOf i).toNat)
  case atStart => exact ⟨0, by simp, Nat.zero_le _, HG0.out.congr fun j _ => (stp_start f x h d A j).symm, grown_refl w g⟩
  case round =>
    clear HG0 td0 td1
    obtain ⟨B, rfl, hB, ho, hb⟩ := hrel
    by_cases h1 : B < d
    · have hBn : B * (2 * h) + 2 * h ≤ n := by
        have := Nat.mul_le_mul_right (2 * h) (show B + 1 ≤ d by omega)
        rw [Nat.add_mul, Nat.one_mul, ← HND.out] at this
        exact this
      have hd1 : decide (((B * (2 * h) : Nat) : Int) < n) = true := decide_eq_true (by omega)
      obtain ⟨I, hI⟩ : ∃ I, B * (2 * h) = I := ⟨_, rfl⟩
      have HNX : Hid (((I + 2 * h : Nat) : Int) = (((B + 1) * (2 * h) : Nat) : Int)) := Lib.hid (by rw [Nat.add_mul, Nat.one_mul, hI])
      have HOI := Lib.hid ho
      have HRD : Hid (∀ j, j < h → stp f x h d A B j (I + j) = A (I + j) ∧ stp f x h d A B j (I + j + h) = A (I + j + h)) := Lib.hid fun j hj => by rw [← hI]; exact stp_read hj
      have HST : Hid (∀ j, j < h → ∀ t, (if t = I + j + h then RS (A (I + j) - RS (A (I + j + h) * x ^ (j * d)) (P f)) (P f) else if t = I + j then RS (A (I + j) + RS (A (I + j + h) * x ^ (j * d)) (P f)) (P f) else stp f x h d A B j t) = stp f x h d A B (j + 1) t) := Lib.hid fun j hj t => by
        have := stp_step (f := f) (w := x) (d := d) (V := A) (B := B) hj t
        rw [stp_low hj, stp_high hj, hI] at this
        exact this
      have HFULL : Hid (∀ t, stp f x h d A B h t = stp f x h d A (B + 1) 0 t) := Lib.hid fun t => stp_next f x d A B t hpos
      clear ho
      rw [hI] at hd1 hBn ⊢
      clear hI
      have hIn : I < n := by omega
      have u1 : IntKind.i64.wrap ((I : Int) + h) = (I : Int) + h := IntWalk.i64_in _ (by omega)
      have u2 : IntKind.i64.wrap ((I : Int) + 2 * h) = (I : Int) + 2 * h := IntWalk.i64_in _ (by omega)
      have sl0 : ∀ w, (Instr.slice 84 (.slice (some ⟨g, 0, none⟩) n n) (some (.int .i64 I)) (some (.int .i64 ((I : Int) + h))) (some (.int .i64 ((I : Int) + h)))).run Tryd.prog w = .ok (.slice (some ⟨g, I, none⟩) h h) w := fun w => slice_3 Tryd.underlying84 info_uint64 g I (I + h) h n n _ _ (by omega) (by omega) (by omega) (by omega) (by omega) w
      have sl1 : ∀ w, (Instr.slice 84 (.slice (some ⟨g, 0, none⟩) n n) (some (.int .i64 ((I : Int) + h))) (some (.int .i64 ((I : Int) + 2 * h))) (some (.int .i64 ((I : Int) + 2 * h)))).run Tryd.prog w = .ok (.slice (some ⟨g, I + h, none⟩) h h) w := fun w => slice_3 Tryd.underlying84 info_uint64 g (I + h) (I + 2 * h) h n n _ _ (by omega) (by omega) (by omega) (by omega) (by omega) w
      go_wp2_with fail
      clear sl0 sl1
      go_loopw [12, 13, 14, 52] (fun _ _ _ jj W => ∃ j : Nat, jj = .int .i64 j ∧ j ≤ h ∧ RowW .u64 t W g N (stp f x h d A B j) ∧ w.grownBy W (some g)) (fun _ _ _ jj _ => h - (intOf jj).toNat)
      case atStart => exact ⟨0, rfl, Nat.zero_le _, HOI.out, hb⟩
      case round =>
        clear HOI hb
        obtain ⟨j, rfl, hj, ho, hb⟩ := hrel
        by_cases h2 : j < h
        · have hd2 : decide ((j : Int) < h) = true := decide_eq_true (by omega)
          have hrd := HRD.out j h2
          have c1 : wr.cell? ⟨g, I + j, none⟩ = some (.int .u64 (A (I + j))) := by rw [ho.cell (show I + j < N by omega), hrd.1]
          have c2 : wr.cell? ⟨g, I + h + j, none⟩ = some (.int .u64 (A (I + j + h))) := by rw [show I + h + j = I + j + h by omega, ho.cell (show I + j + h < N by omega), hrd.2]
          have hjd : j * d < n := by
            have : j * d < 2 * h * d := Nat.mul_lt_mul_of_pos_right (by omega) d0
            rw [Nat.mul_comm (2 * h) d, ← HND.out] at this
            exact this
          have c3 : wr.cell? ⟨r, j * d, none⟩ = some (.int .u64 (x ^ (j * d) % P f)) := by rw [(HR0.out.other hb hgr).cell (show j * d < N by omega), HRR.out _ hjd]
          have b1 := HA.out (I + j) (by omega)
          have b2 := HA.out (I + j + h) (by omega)
          have b3 : 0 ≤ x ^ (j * d) % P f ∧ x ^ (j * d) % P f < P f := ⟨Int.emod_nonneg _ (by omega), Int.emod_lt_of_pos _ (by omega)⟩
          have hY : RS (A (I + j + h) * (x ^ (j * d) % P f)) (P f) = RS (A (I + j + h) * x ^ (j * d)) (P f) := by unfold RS; exact emod_mul_congr rfl (Int.emod_emod_of_dvd _ (Int.dvd_refl _))
          have HSTj := Lib.hid (HST.out j h2)
          have jdn : ((j : Int) * d) = ((j * d : Nat) : Int) := by rw [Int.natCast_mul]
          have v1 : IntKind.i64.wrap ((j : Int) * d) = (j : Int) * d := IntWalk.i64_in _ (by omega)
          have v2 : (0 : Int) ≤ (j : Int) * d := by omega
          have v3 : (j : Int) * d < n := by omega
          have v4 : ((j : Int) * d).toNat = j * d := by omega
          clear jdn hjd
          have ho2 : RowW .u64 t wr g N (stp f x h d A B j) := ho
          clear ho
          obtain ⟨X, hX⟩ : ∃ X, A (I + j) = X := ⟨_, rfl⟩
          obtain ⟨Y0, hY0⟩ : ∃ Y0, A (I + j + h) = Y0 := ⟨_, rfl⟩
          obtain ⟨R0, hR0⟩ : ∃ R0, x ^ (j * d) % P f = R0 := ⟨_, rfl⟩
          rw [hX] at c1 b1
          rw [hY0] at c2 b2 hY
          rw [hR0] at c3 b3 hY
          rw [hX, hY0] at HSTj
          rw [← hY] at HSTj
          clear hX hY0 hR0 hY hrd
          have m0 : 0 ≤ Y0 * R0 := Int.mul_nonneg b2.1 b3.1
          have m1 : Y0 * R0 ≤ 1073741824 * 1073741824 := mul_le_sq b2.1 (by omega) b3.1 (by omega)
          have hb2 : 0 ≤ RS (Y0 * R0) (P f) ∧ RS (Y0 * R0) (P f) < P f := RS_bd (by omega)
          have t1 : (Y0 * R0).tmod (P f) = RS (Y0 * R0) (P f) := by rw [Int.tmod_eq_emod_of_nonneg m0]; rfl
          have t1' : (Y0 * R0) % (P f) = RS (Y0 * R0) (P f) := rfl
          have k1 : IntKind.u64.wrap (Y0 * R0) = Y0 * R0 := IntWalk.u64_in _ (by omega)
          have pz : (P f == 0) = false := by rw [beq_eq_false_iff_ne]; omega
          have pz2 : ¬ P f = 0 := by omega
          generalize RS (Y0 * R0) (P f) = Y at *
          have k2 : IntKind.u64.wrap Y = Y := IntWalk.u64_in _ (by omega)
          have k3 : IntKind.u64.wrap (X + Y) = X + Y := IntWalk.u64_in _ (by omega)
          have k4 : IntKind.u64.wrap (X + P f) = X + P f := IntWalk.u64_in _ (by omega)
          have k5 : IntKind.u64.wrap (X + P f - Y) = X + P f - Y := IntWalk.u64_in _ (by omega)
          have e1 : (X + Y).tmod (P f) = RS (X + Y) (P f) := by rw [Int.tmod_eq_emod_of_nonneg (by omega)]; rfl
          have e1' : (X + Y) % (P f) = RS (X + Y) (P f) := rfl
          have e2' : (X + P f - Y) % (P f) = RS (X - Y) (P f) := by unfold RS; rw [show X + P f - Y = X - Y + P f by omega, Int.add_emod_right]
          have e2 : (X + P f - Y).tmod (P f) = RS (X - Y) (P f) := by rw [Int.tmod_eq_emod_of_nonneg (by omega), e2']
          have l1 : 0 ≤ RS (X + Y) (P f) ∧ RS (X + Y) (P f) < P f := RS_bd (by omega)
          have l2 : 0 ≤ RS (X - Y) (P f) ∧ RS (X - Y) (P f) < P f := RS_bd (by omega)
          have k6 : IntKind.u64.wrap (RS (X + Y) (P f)) = RS (X + Y) (P f) := IntWalk.u64_in _ (by omega)
          have k7 : IntKind.u64.wrap (RS (X - Y) (P f)) = RS (X - Y) (P f) := IntWalk.u64_in _ (by omega)
          clear m0 m1
          go_wp2
          go_quiet (fail)
          have how2 : RowW .u64 t (wr.drewN nq) g N (stp f x h d A B j) := ho2
          have hgb2 := grown_drews hb nq
          clear c1 c2 c3 hb ho2 t1 t1' k1
          generalize wr.drewN nq = W2 at *
          have cI := how2.cell (show I + j < N by omega)
          have fI := how2.frozen (I + j)
          have how3 := how2.set (I + j) (RS (X + Y) (P f))
          have hgb3 := grown_put (i := I + j) (v := .int .u64 (RS (X + Y) (P f))) hgb2
          obtain ⟨W3, hW3⟩ : ∃ W3, W2.setCell ⟨g, I + j, none⟩ (.int .u64 (RS (X + Y) (P f))) = W3 := ⟨_, rfl⟩
          have HW3 := Lib.hid hW3
          rw [hW3] at how3 hgb3
          have cH := how3.cell (show I + j + h < N by omega)
          have fH := how3.frozen (I + j + h)
          have HOW4 : Hid (RowW .u64 t (W3.setCell ⟨g, I + h + j, none⟩ (.int .u64 (RS (X - Y) (P f)))) g N (stp f x h d A B (j + 1))) := Lib.hid (by
            rw [show I + h + j = I + j + h by omega]
            exact (how3.set (I + j + h) (RS (X - Y) (P f))).congr fun t _ => HSTj.out t)
          have HB4 := Lib.hid (grown_put (i := I + h + j) (v := .int .u64 (RS (X - Y) (P f))) hgb3)
          rw [show I + j + h = I + h + j by omega] at cH fH
          clear how2 how3 hgb2 hgb3 HSTj
          go_wp2_with (rw [hW3])
          go_roundw
          case rel => exact ⟨j + 1, by go_num, by omega, HOW4.out, HB4.out⟩
          case measure => simp [intOf]; omega
        · have hd2 : decide ((j : Int) < h) = false := decide_eq_false (by omega)
          obtain rfl : j = h := by omega
          have HOF : Hid (RowW .u64 t wr g N (stp f x j d A (B + 1) 0)) := Lib.hid (ho.congr fun t _ => HFULL.out t)
          clear ho HFULL HST HRD
          go_wp2
          go_roundw
          case rel => exact ⟨B + 1, vint (by rw [← HNX.out]; omega), by omega, HOF.out, hb⟩
          case measure => simp [intOf]; omega
    · have hBd : B = d := by omega
      subst hBd
      have hBn : B * (2 * h) = n := HND.out.symm
      have hd1 : decide ((n : Int) < n) = false := decide_eq_false (by omega)
      rw [hBn]
      clear hBn
      go_wp2
      go_end0
      exact ⟨rfl, ho, hb⟩
end Go.Proofs.YtnipffmookkkdabDoor
namespace Go.Proofs.YtnipffmookkkdabDoor
open Go.RowKit
theorem slice_arr {P : Program} {t e : TypeId} {z : Value} {by' N : Nat} (hu : P.underlying t = some (.array N e)) (hinfo : (P.info? e).map (fun i => (i.zero, i.size, i.bytes)) = some (some z, 1, by')) (g n : Nat) (hn : n ≤ N) (w : World) :
    (Instr.sliceAt t (.pointer (some ⟨g, 0, none⟩)) none (some (.int .i64 n)) (some (.int .i64 n))).run P w = .ok (.slice (some ⟨g, 0, none⟩) n n) w := by
  obtain ⟨i, hi, hzz⟩ := Option.map_eq_some_iff.1 hinfo
  simp only [Prod.mk.injEq] at hzz
  simp [Instr.sliceAt, Instr.sureAddr, run_underlying hu, Instr.sliceBounds, Instr.sliceBound, asIntOf, sizeOf, typeInfo, hi, hn, Addr.add_zero']
end Go.Proofs.YtnipffmookkkdabDoor
namespace Go.Proofs.YtnipffmookkkdabDoor
open Go.RowKit
theorem zero_uint32 : ((Tryd.prog.info? 79).bind (fun i => i.zero)).map (fun z => z.cells) = some (madeCells #[.int .u32 0] 512) := by kernel_rfl
theorem alloc_uint32 (w : World) : (Instr.alloc 79 true (.tuple #[])).run Tryd.prog w = .ok (.pointer (some ⟨w.heap.size, 0, none⟩)) (w.alloc (.cells (madeCells #[.int .u32 0] 512) 79)) := by
  obtain ⟨z, hz, hcz⟩ := Option.map_eq_some_iff.1 zero_uint32
  obtain ⟨i, hi, hiz⟩ := Option.bind_eq_some_iff.1 hz
  generalize madeCells #[.int .u32 0] 512 = M at *
  simp [Instr.alloc, zeroValue, typeInfo, hi, hiz, newVar, newRow, hcz]
theorem wpList_arr_uint32 {w : World} {ops : Array Oper} {rest : List Oper} {o : Oper} {a : Act} {Q : Exit → Act → World → Prop} (hgd : o.guard = none) (ho : o.op = .alloc 79)
    (h : ∀ w', w'.heap.size = w.heap.size + 1 → Hid (RowW .u32 79 w' w.heap.size 512 (fun _ => 0)) → Below w.heap.size w w' → wpList Tryd.prog ops Q rest (a.put o.dst (.pointer (some ⟨w.heap.size, 0, none⟩))) w') : wpList Tryd.prog ops Q (o :: rest) a w := by
  refine wpList_plain hgd fun K hK' => ?_
  have hrun := alloc_uint32 w
  have hK := h _ (World.size_alloc _ _) (Lib.hid (World.rowIs_made w (.int .u32 0) 512 79)) ((Below.refl _ _).alloc (Nat.le_refl _) _)
  clear h
  generalize w.alloc (.cells (madeCells #[.int .u32 0] 512) 79) = W at *
  unfold Oper.wp
  simp [execOp, ho, hrun, Result.andThen]
  exact hK' _ _ hK
theorem arr_uint32 : Tryd.prog.underlying 79 = some (.array 512 64) := by kernel_rfl
set_option maxRecDepth 100000 in
set_option maxHeartbeats 2000000 in
theorem levelsIn_uint32 (f : Int) (l : List Int) (b off n cap s m k E : Nat) (w : World) (ht : Tab w) (h : VecOk f l) (hP : P f < 65536) (hn : l.length = n) (hk : n = 2 ^ k) (k9 : k ≤ 9) (hh : hasK f k) (hlog : mLog n = k) (hE : E = s + m) (hEk : E ≤ k) (hlt : b < w.heap.size)
    (hc : ∀ j, j < n → w.cell? ⟨b, off + j, none⟩ = some (.int .i64 (lf l j))) :
    Calls Tryd.prog 94 #[.int .i64 f, .slice (some ⟨b, off, none⟩) n cap, .int .i64 s, .int .i64 E] w (OwnG w (lvL f l s m)) := by
  have HVO := Lib.hid h
  have hpos := h.pos
  rw [hn] at hpos
  have hp := P_bd h.f08.1 h.f08.2
  obtain ⟨h0, h8⟩ := h.f08
  have HN := Lib.hid hn
  have HK := Lib.hid hk
  have HH := Lib.hid hh
  have HC := Lib.hid hc
  have HLOG := Lib.hid hlog
  have HLEN : Hid (∀ t, (lvL f l s t).length = n) := Lib.hid fun t => by rw [lvL_len, HN.out]
  have HX : Hid (∀ t, rootL f (lvL f l s t) = mRoot f k) := Lib.hid fun t => by unfold rootL; rw [HLEN.out t, HLOG.out]
  have HE := Lib.hid hE
  have hsmE : s + m = E := hE.symm
  clear h hn hk hh hc hlog hE hsmE
  have hsl : ∀ (g : Nat) (w : World), (Instr.sliceAt 79 (.pointer (some ⟨g, 0, none⟩)) none (some (.int .i64 n)) (some (.int .i64 n))).run Tryd.prog w = .ok (.slice (some ⟨g, 0, none⟩) n n) w := fun g w => slice_arr arr_uint32 info_uint32 g n hpos.2 w
  go_enter Tryd.func94, Tryd.ntmps94
  go_wp2_with (with_reducible refine wpList_arr_uint32 rfl rfl ?_)
  intro w1 z1 r1 b1
  go_wp2_with (with_reducible refine wpList_arr_uint32 rfl rfl ?_)
  intro w2 z2 r2 b2
  have r1' : Hid (RowW .u32 79 w2 w.heap.size 512 (fun _ => 0)) := Lib.hid (r1.out.keep (by rw [z1]; exact b2))
  have b3 : Below w.heap.size w w2 := b1.trans (b2.mono (by omega))
  have z3 : w2.heap.size = w.heap.size + 2 := by omega
  clear r1 b1 b2 z1 z2
  go_wp2
  go_quiet (fail)
  have r3 : RowW .u32 79 (w2.drewN nq) w.heap.size 512 (fun _ => 0) := r1'.out
  have r4 : RowW .u32 79 (w2.drewN nq) (w.heap.size + 1) 512 (fun _ => 0) := r2.out
  have b4 := below_drewN b3 nq
  have z4 : (w2.drewN nq).heap.size = w2.heap.size := rfl
  clear r1' r2 b3 hsl
  generalize w2.drewN nq = W2 at *
  go_wp2_with fail
  refine (fill_uint32 79 w.heap.size n 512 b off cap (fun _ => 0) (lf l) W2 r3 hpos.2 (by omega) (by omega) (by omega) (fun j => by have := HVO.out.lt j; omega) (fun j hj => (b4.cell (p := ⟨b, off + j, none⟩) hlt).trans (HC.out j hj))).mono ?_
  rintro e W3 ⟨rfl, r5, gb5⟩
  have r6 := r4.other gb5 (show w.heap.size + 1 ≠ w.heap.size by omega)
  have b6 : Below w.heap.size w W3 := b4.grown gb5 (by omega) (fun r hr => by injection hr with hr; omega)
  have z6 := gb5.size
  clear r3 r4 b4 gb5
  go_wp2_with fail
  refine (iLogOf n W3).mono ?_
  rintro e w' ⟨rfl, rfl⟩
  rw [HLOG.out]
  go_wp2_with fail
  refine (iRoots_on f k n W3 (ht.below b6) HH.out k9 HK.out).mono ?_
  rintro e W4 ⟨rfl, o4, b7⟩
  have r7 := r5.keep b7
  have r8 := r6.keep b7
  have b8 := below_up b6 b7 b6.size
  have z8 := b7.size
  clear r5 r6 b6 b7
  go_wp2_with fail
  refine (fill_uint32 79 (w.heap.size + 1) n 512 W3.heap.size 0 n (fun _ => 0) (rootsF f k) W4 r8 hpos.2 (by omega) (by omega) o4.lt (fun j => by have := rootsF_bd HH.out j; omega) (fun j hj => by rw [Nat.zero_add]; exact World.rowIs.cell o4 hj)).mono ?_
  rintro e W5 ⟨rfl, r9, gb9⟩
  have r10 := r7.other gb9 (show w.heap.size ≠ w.heap.size + 1 by omega)
  have b10 : Below w.heap.size w W5 := b8.grown gb9 (by omega) (fun r hr => by injection hr with hr; omega)
  have r11 : Hid (RowW .u32 79 W5 w.heap.size 512 (lf (lvL f l s 0))) := Lib.hid (r10.congr fun j _ => by
    show (if j < n then lf l j else 0) = lf l j
    by_cases hj : j < n
    · rw [if_pos hj]
    · rw [if_neg hj, lf_out l (by rw [HN.out]; omega)])
  have r9' := Lib.hid r9
  clear r7 r8 b8 r9 r10 gb9 o4
  go_wp2_with fail
  go_loopw [14] (fun i wr => ∃ t : Nat, i = .int .i64 ((s + t : Nat) : Int) ∧ t ≤ m ∧ RowW .u32 79 wr w.heap.size 512 (lf (lvL f l s t)) ∧ RowW .u32 79 wr (w.heap.size + 1) 512 (fun j => if j < n then rootsF f k j else 0) ∧ Below w.heap.size w wr) (fun i _ => E - (intOf i).toNat)
  case atStart => exact ⟨0, rfl, Nat.zero_le _, r11.out, r9'.out, b10⟩
  case round =>
    clear r11 r9' b10
    obtain ⟨t, rfl, htm, ho, hr, hb⟩ := hrel
    by_cases h1 : t < m
    · obtain ⟨q, hq⟩ : ∃ q, s + t = q := ⟨_, rfl⟩
      have HNX : Hid (((q + 1 : Nat) : Int) = ((s + (t + 1) : Nat) : Int)) := Lib.hid (by omega)
      have hqk : q < k := by have := HE.out; omega
      have HST : Hid (∀ j, stp f (mRoot f k) (2 ^ q) (2 ^ (k - q - 1)) (lf (lvL f l s t)) (2 ^ (k - q - 1)) 0 j = lf (lvL f l s (t + 1)) j) := Lib.hid fun j => by
        have := stp_list (f := f) (l := lvL f l s t) (k := k) (q := q) (by rw [HLEN.out, HK.out]) hqk j
        rw [HX.out t] at this
        rw [this, ← hq]
        rfl
      rw [hq]
      have hqE : q < E := by have := HE.out; omega
      clear hq
      have hd1 : decide ((q : Int) < E) = true := decide_eq_true (by omega)
      have HEH : Hid (wrap64 (2 ^ q) = ((2 ^ q : Nat) : Int)) := Lib.hid (by rw [shl_nat (by omega)]; unfold two; rw [Int.toNat_natCast, Int.natCast_pow]; rfl)
      have kP : IntKind.u32.wrap (P f) = P f := IntWalk.u32_in _ (by omega)
      have HBT := Lib.hid (fun (W : World) (ho : RowW .u32 79 W w.heap.size 512 (lf (lvL f l s t))) (hr : RowW .u32 79 W (w.heap.size + 1) 512 (fun j => if j < n then rootsF f k j else 0)) => butter_uint32 f (mRoot f k) 79 w.heap.size (w.heap.size + 1) n 512 (2 ^ q) (2 ^ (k - q - 1)) (lf (lvL f l s t)) (fun j => if j < n then rootsF f k j else 0) W h0 h8 hP ho hr (by omega) hpos.2 (by omega) (Nat.pow_pos (by omega)) (by rw [HK.out, pow_half hqk]) hpos.1 (fun j _ => (HVO.out.lv s t).lt j) (fun j hj => by show (if j < n then rootsF f k j else 0) = _; rw [if_pos hj, rootsF_pow HH.out]))
      have ho2 : Hid (RowW .u32 79 wr.drew w.heap.size 512 (lf (lvL f l s t))) := Lib.hid ho
      have hr2 : Hid (RowW .u32 79 wr.drew (w.heap.size + 1) 512 (fun j => if j < n then rootsF f k j else 0)) := Lib.hid hr
      have hb2 : Below w.heap.size w wr.drew := ⟨hb.os, hb.tape, hb.output, hb.size, hb.block⟩
      have htd := ht.below hb2
      clear ho hr hb
      go_wp2
      refine wp_region_still_tail 7 (by kernel_rfl) (by kernel_rfl) ?_
      simp only [List.take_succ_cons, List.take_zero, List.drop_succ_cons, List.drop_zero]
      still_step
      still_step
      still_step
      still_call ((prime_c f wr.drew htd h0 h8).mono fun _ _ h => ⟨h.1, h.2.symm⟩)
      still_step
      still_step
      still_step
      refine wpStill_nil ?_
      change wpList _ _ _ _ _ wr.drew
      generalize wr.drew = W at *
      go_wp2_with fail
      rw [HEH.out]
      refine (HBT.out W ho2.out hr2.out).mono ?_
      rintro e W' ⟨rfl, ro, rg⟩
      have ro2 : Hid (RowW .u32 79 W' w.heap.size 512 (lf (lvL f l s (t + 1)))) := Lib.hid (ro.congr fun j _ => HST.out j)
      have rr2 := Lib.hid (hr2.out.other rg (show w.heap.size + 1 ≠ w.heap.size by omega))
      have rb : Below w.heap.size w W' := hb2.grown rg (by have := hb2.size; omega) (fun r hr => by injection hr with hr; omega)
      clear ro rg HBT HST ho2 hr2 hb2 htd HEH
      go_wp2
      go_roundw
      case rel => exact ⟨t + 1, vint (by rw [← HNX.out]; omega), by omega, ro2.out, rr2.out, rb⟩
      case measure => simp [intOf]; omega
    · obtain rfl : t = m := by omega
      have hd1 : decide ((E : Int) < E) = false := decide_eq_false (by omega)
      rw [← HE.out]
      obtain ⟨wo, hwo⟩ : ∃ wo, wo = wr := ⟨_, rfl⟩
      subst hwo
      have hmk := made_n n (by omega)
      have zw := hb.size
      go_wp2_with fail
      clear hmk hr
      go_loopw [16, 17, 53] (fun _ _ i W => ∃ j : Nat, i = .int .i64 j ∧ j ≤ n ∧ Own W wo.heap.size n (fun x => if x < j then lf (lvL f l s t) x else 0) ∧ Below wo.heap.size wo W) (fun _ _ i _ => n - (intOf i).toNat)
      case atStart =>
        refine ⟨0, rfl, Nat.zero_le _, ?_, (Below.refl _ _).alloc (Nat.le_refl _) _⟩
        exact (World.rowIs_made wo (.int .i64 0) n 3).congr fun j _ => by simp
      case round =>
        obtain ⟨j, rfl, hj, ho2, hb2⟩ := hrel
        by_cases h2 : j < n
        · have c1 : wr.cell? ⟨w.heap.size, j, none⟩ = some (.int .u32 (lf (lvL f l s t) j)) := (ho.keep hb2).cell (by omega)
          have hd2 : decide ((j : Int) < n) = true := decide_eq_true (by omega)
          have HS := Lib.hid (copy_set (w := wo) (F := lf (lvL f l s t)) ho2)
          have c3 := World.rowIs.cell ho2 h2
          have c4 := World.rowIs.frozen ho2 j
          have bv := (HVO.out.lv s t).lt j
          have q1 : IntKind.i64.wrap (lf (lvL f l s t) j) = lf (lvL f l s t) j := IntWalk.i64_in _ (by omega)
          clear ho2
          go_wp2
          go_roundw
          case rel => exact ⟨j + 1, by go_num, by omega, HS.out, hb2.setCell (Nat.le_refl _) _⟩
          case measure => simp [intOf]; omega
        · have hd2 : decide ((j : Int) < n) = false := decide_eq_false (by omega)
          obtain rfl : j = n := by omega
          have HF : Hid (OwnG w (lvL f l s t) (.returned (.slice (some ⟨wo.heap.size, 0, none⟩) j j)) wr) := Lib.hid (OwnG.of_own ho2 (HLEN.out t).symm zw (fun x hx => by simp [hx]) (below_up hb hb2 zw))
          clear ho2
          go_wp2
          go_ret
          exact HF.out
end Go.Proofs.YtnipffmookkkdabDoor
namespace Go.Proofs.YtnipffmookkkdabDoor
open Go.RowKit
theorem zero_uint64 : ((Tryd.prog.info? 83).bind (fun i => i.zero)).map (fun z => z.cells) = some (madeCells #[.int .u64 0] 512) := by kernel_rfl
theorem alloc_uint64 (w : World) : (Instr.alloc 83 true (.tuple #[])).run Tryd.prog w = .ok (.pointer (some ⟨w.heap.size, 0, none⟩)) (w.alloc (.cells (madeCells #[.int .u64 0] 512) 83)) := by
  obtain ⟨z, hz, hcz⟩ := Option.map_eq_some_iff.1 zero_uint64
  obtain ⟨i, hi, hiz⟩ := Option.bind_eq_some_iff.1 hz
  generalize madeCells #[.int .u64 0] 512 = M at *
  simp [Instr.alloc, zeroValue, typeInfo, hi, hiz, newVar, newRow, hcz]
theorem wpList_arr_uint64 {w : World} {ops : Array Oper} {rest : List Oper} {o : Oper} {a : Act} {Q : Exit → Act → World → Prop} (hgd : o.guard = none) (ho : o.op = .alloc 83)
    (h : ∀ w', w'.heap.size = w.heap.size + 1 → Hid (RowW .u64 83 w' w.heap.size 512 (fun _ => 0)) → Below w.heap.size w w' → wpList Tryd.prog ops Q rest (a.put o.dst (.pointer (some ⟨w.heap.size, 0, none⟩))) w') : wpList Tryd.prog ops Q (o :: rest) a w := by
  refine wpList_plain hgd fun K hK' => ?_
  have hrun := alloc_uint64 w
  have hK := h _ (World.size_alloc _ _) (Lib.hid (World.rowIs_made w (.int .u64 0) 512 83)) ((Below.refl _ _).alloc (Nat.le_refl _) _)
  clear h
  generalize w.alloc (.cells (madeCells #[.int .u64 0] 512) 83) = W at *
  unfold Oper.wp
  simp [execOp, ho, hrun, Result.andThen]
  exact hK' _ _ hK
theorem arr_uint64 : Tryd.prog.underlying 83 = some (.array 512 66) := by kernel_rfl
set_option maxRecDepth 100000 in
set_option maxHeartbeats 2000000 in
theorem levelsIn_uint64 (f : Int) (l : List Int) (b off n cap s m k E : Nat) (w : World) (ht : Tab w) (h : VecOk f l) (hn : l.length = n) (hk : n = 2 ^ k) (k9 : k ≤ 9) (hh : hasK f k) (hlog : mLog n = k) (hE : E = s + m) (hEk : E ≤ k) (hlt : b < w.heap.size)
    (hc : ∀ j, j < n → w.cell? ⟨b, off + j, none⟩ = some (.int .i64 (lf l j))) :
    Calls Tryd.prog 95 #[.int .i64 f, .slice (some ⟨b, off, none⟩) n cap, .int .i64 s, .int .i64 E] w (OwnG w (lvL f l s m)) := by
  have HVO := Lib.hid h
  have hpos := h.pos
  rw [hn] at hpos
  have hp := P_bd h.f08.1 h.f08.2
  obtain ⟨h0, h8⟩ := h.f08
  have HN := Lib.hid hn
  have HK := Lib.hid hk
  have HH := Lib.hid hh
  have HC := Lib.hid hc
  have HLOG := Lib.hid hlog
  have HLEN : Hid (∀ t, (lvL f l s t).length = n) := Lib.hid fun t => by rw [lvL_len, HN.out]
  have HX : Hid (∀ t, rootL f (lvL f l s t) = mRoot f k) := Lib.hid fun t => by unfold rootL; rw [HLEN.out t, HLOG.out]
  have HE := Lib.hid hE
  have hsmE : s + m = E := hE.symm
  clear h hn hk hh hc hlog hE hsmE
  have hsl : ∀ (g : Nat) (w : World), (Instr.sliceAt 83 (.pointer (some ⟨g, 0, none⟩)) none (some (.int .i64 n)) (some (.int .i64 n))).run Tryd.prog w = .ok (.slice (some ⟨g, 0, none⟩) n n) w := fun g w => slice_arr arr_uint64 info_uint64 g n hpos.2 w
  go_enter Tryd.func95, Tryd.ntmps95
  go_wp2_with (with_reducible refine wpList_arr_uint64 rfl rfl ?_)
  intro w1 z1 r1 b1
  go_wp2_with (with_reducible refine wpList_arr_uint64 rfl rfl ?_)
  intro w2 z2 r2 b2
  have r1' : Hid (RowW .u64 83 w2 w.heap.size 512 (fun _ => 0)) := Lib.hid (r1.out.keep (by rw [z1]; exact b2))
  have b3 : Below w.heap.size w w2 := b1.trans (b2.mono (by omega))
  have z3 : w2.heap.size = w.heap.size + 2 := by omega
  clear r1 b1 b2 z1 z2
  go_wp2
  go_quiet (fail)
  have r3 : RowW .u64 83 (w2.drewN nq) w.heap.size 512 (fun _ => 0) := r1'.out
  have r4 : RowW .u64 83 (w2.drewN nq) (w.heap.size + 1) 512 (fun _ => 0) := r2.out
  have b4 := below_drewN b3 nq
  have z4 : (w2.drewN nq).heap.size = w2.heap.size := rfl
  clear r1' r2 b3 hsl
  generalize w2.drewN nq = W2 at *
  go_wp2_with fail
  refine (fill_uint64 83 w.heap.size n 512 b off cap (fun _ => 0) (lf l) W2 r3 hpos.2 (by omega) (by omega) (by omega) (fun j => by have := HVO.out.lt j; omega) (fun j hj => (b4.cell (p := ⟨b, off + j, none⟩) hlt).trans (HC.out j hj))).mono ?_
  rintro e W3 ⟨rfl, r5, gb5⟩
  have r6 := r4.other gb5 (show w.heap.size + 1 ≠ w.heap.size by omega)
  have b6 : Below w.heap.size w W3 := b4.grown gb5 (by omega) (fun r hr => by injection hr with hr; omega)
  have z6 := gb5.size
  clear r3 r4 b4 gb5
  go_wp2_with fail
  refine (iLogOf n W3).mono ?_
  rintro e w' ⟨rfl, rfl⟩
  rw [HLOG.out]
  go_wp2_with fail
  refine (iRoots_on f k n W3 (ht.below b6) HH.out k9 HK.out).mono ?_
  rintro e W4 ⟨rfl, o4, b7⟩
  have r7 := r5.keep b7
  have r8 := r6.keep b7
  have b8 := below_up b6 b7 b6.size
  have z8 := b7.size
  clear r5 r6 b6 b7
  go_wp2_with fail
  refine (fill_uint64 83 (w.heap.size + 1) n 512 W3.heap.size 0 n (fun _ => 0) (rootsF f k) W4 r8 hpos.2 (by omega) (by omega) o4.lt (fun j => by have := rootsF_bd HH.out j; omega) (fun j hj => by rw [Nat.zero_add]; exact World.rowIs.cell o4 hj)).mono ?_
  rintro e W5 ⟨rfl, r9, gb9⟩
  have r10 := r7.other gb9 (show w.heap.size ≠ w.heap.size + 1 by omega)
  have b10 : Below w.heap.size w W5 := b8.grown gb9 (by omega) (fun r hr => by injection hr with hr; omega)
  have r11 : Hid (RowW .u64 83 W5 w.heap.size 512 (lf (lvL f l s 0))) := Lib.hid (r10.congr fun j _ => by
    show (if j < n then lf l j else 0) = lf l j
    by_cases hj : j < n
    · rw [if_pos hj]
    · rw [if_neg hj, lf_out l (by rw [HN.out]; omega)])
  have r9' := Lib.hid r9
  clear r7 r8 b8 r9 r10 gb9 o4
  go_wp2_with fail
  go_loopw [14] (fun i wr => ∃ t : Nat, i = .int .i64 ((s + t : Nat) : Int) ∧ t ≤ m ∧ RowW .u64 83 wr w.heap.size 512 (lf (lvL f l s t)) ∧ RowW .u64 83 wr (w.heap.size + 1) 512 (fun j => if j < n then rootsF f k j else 0) ∧ Below w.heap.size w wr) (fun i _ => E - (intOf i).toNat)
  case atStart => exact ⟨0, rfl, Nat.zero_le _, r11.out, r9'.out, b10⟩
  case round =>
    clear r11 r9' b10
    obtain ⟨t, rfl, htm, ho, hr, hb⟩ := hrel
    by_cases h1 : t < m
    · obtain ⟨q, hq⟩ : ∃ q, s + t = q := ⟨_, rfl⟩
      have HNX : Hid (((q + 1 : Nat) : Int) = ((s + (t + 1) : Nat) : Int)) := Lib.hid (by omega)
      have hqk : q < k := by have := HE.out; omega
      have HST : Hid (∀ j, stp f (mRoot f k) (2 ^ q) (2 ^ (k - q - 1)) (lf (lvL f l s t)) (2 ^ (k - q - 1)) 0 j = lf (lvL f l s (t + 1)) j) := Lib.hid fun j => by
        have := stp_list (f := f) (l := lvL f l s t) (k := k) (q := q) (by rw [HLEN.out, HK.out]) hqk j
        rw [HX.out t] at this
        rw [this, ← hq]
        rfl
      rw [hq]
      have hqE : q < E := by have := HE.out; omega
      clear hq
      have hd1 : decide ((q : Int) < E) = true := decide_eq_true (by omega)
      have HEH : Hid (wrap64 (2 ^ q) = ((2 ^ q : Nat) : Int)) := Lib.hid (by rw [shl_nat (by omega)]; unfold two; rw [Int.toNat_natCast, Int.natCast_pow]; rfl)
      have kP : IntKind.u64.wrap (P f) = P f := IntWalk.u64_in _ (by omega)
      have HBT := Lib.hid (fun (W : World) (ho : RowW .u64 83 W w.heap.size 512 (lf (lvL f l s t))) (hr : RowW .u64 83 W (w.heap.size + 1) 512 (fun j => if j < n then rootsF f k j else 0)) => butter_uint64 f (mRoot f k) 83 w.heap.size (w.heap.size + 1) n 512 (2 ^ q) (2 ^ (k - q - 1)) (lf (lvL f l s t)) (fun j => if j < n then rootsF f k j else 0) W h0 h8 ho hr (by omega) hpos.2 (by omega) (Nat.pow_pos (by omega)) (by rw [HK.out, pow_half hqk]) hpos.1 (fun j _ => (HVO.out.lv s t).lt j) (fun j hj => by show (if j < n then rootsF f k j else 0) = _; rw [if_pos hj, rootsF_pow HH.out]))
      have ho2 : Hid (RowW .u64 83 wr.drew w.heap.size 512 (lf (lvL f l s t))) := Lib.hid ho
      have hr2 : Hid (RowW .u64 83 wr.drew (w.heap.size + 1) 512 (fun j => if j < n then rootsF f k j else 0)) := Lib.hid hr
      have hb2 : Below w.heap.size w wr.drew := ⟨hb.os, hb.tape, hb.output, hb.size, hb.block⟩
      have htd := ht.below hb2
      clear ho hr hb
      go_wp2
      refine wp_region_still_tail 7 (by kernel_rfl) (by kernel_rfl) ?_
      simp only [List.take_succ_cons, List.take_zero, List.drop_succ_cons, List.drop_zero]
      still_step
      still_step
      still_step
      still_call ((prime_c f wr.drew htd h0 h8).mono fun _ _ h => ⟨h.1, h.2.symm⟩)
      still_step
      still_step
      still_step
      refine wpStill_nil ?_
      change wpList _ _ _ _ _ wr.drew
      generalize wr.drew = W at *
      go_wp2_with fail
      rw [HEH.out]
      refine (HBT.out W ho2.out hr2.out).mono ?_
      rintro e W' ⟨rfl, ro, rg⟩
      have ro2 : Hid (RowW .u64 83 W' w.heap.size 512 (lf (lvL f l s (t + 1)))) := Lib.hid (ro.congr fun j _ => HST.out j)
      have rr2 := Lib.hid (hr2.out.other rg (show w.heap.size + 1 ≠ w.heap.size by omega))
      have rb : Below w.heap.size w W' := hb2.grown rg (by have := hb2.size; omega) (fun r hr => by injection hr with hr; omega)
      clear ro rg HBT HST ho2 hr2 hb2 htd HEH
      go_wp2
      go_roundw
      case rel => exact ⟨t + 1, vint (by rw [← HNX.out]; omega), by omega, ro2.out, rr2.out, rb⟩
      case measure => simp [intOf]; omega
    · obtain rfl : t = m := by omega
      have hd1 : decide ((E : Int) < E) = false := decide_eq_false (by omega)
      rw [← HE.out]
      obtain ⟨wo, hwo⟩ : ∃ wo, wo = wr := ⟨_, rfl⟩
      subst hwo
      have hmk := made_n n (by omega)
      have zw := hb.size
      go_wp2_with fail
      clear hmk hr
      go_loopw [16, 17, 53] (fun _ _ i W => ∃ j : Nat, i = .int .i64 j ∧ j ≤ n ∧ Own W wo.heap.size n (fun x => if x < j then lf (lvL f l s t) x else 0) ∧ Below wo.heap.size wo W) (fun _ _ i _ => n - (intOf i).toNat)
      case atStart =>
        refine ⟨0, rfl, Nat.zero_le _, ?_, (Below.refl _ _).alloc (Nat.le_refl _) _⟩
        exact (World.rowIs_made wo (.int .i64 0) n 3).congr fun j _ => by simp
      case round =>
        obtain ⟨j, rfl, hj, ho2, hb2⟩ := hrel
        by_cases h2 : j < n
        · have c1 : wr.cell? ⟨w.heap.size, j, none⟩ = some (.int .u64 (lf (lvL f l s t) j)) := (ho.keep hb2).cell (by omega)
          have hd2 : decide ((j : Int) < n) = true := decide_eq_true (by omega)
          have HS := Lib.hid (copy_set (w := wo) (F := lf (lvL f l s t)) ho2)
          have c3 := World.rowIs.cell ho2 h2
          have c4 := World.rowIs.frozen ho2 j
          have bv := (HVO.out.lv s t).lt j
          have q1 : IntKind.i64.wrap (lf (lvL f l s t) j) = lf (lvL f l s t) j := IntWalk.i64_in _ (by omega)
          clear ho2
          go_wp2
          go_roundw
          case rel => exact ⟨j + 1, by go_num, by omega, HS.out, hb2.setCell (Nat.le_refl _) _⟩
          case measure => simp [intOf]; omega
        · have hd2 : decide ((j : Int) < n) = false := decide_eq_false (by omega)
          obtain rfl : j = n := by omega
          have HF : Hid (OwnG w (lvL f l s t) (.returned (.slice (some ⟨wo.heap.size, 0, none⟩) j j)) wr) := Lib.hid (OwnG.of_own ho2 (HLEN.out t).symm zw (fun x hx => by simp [hx]) (below_up hb hb2 zw))
          clear ho2
          go_wp2
          go_ret
          exact HF.out
end Go.Proofs.YtnipffmookkkdabDoor
namespace Go.Proofs.YtnipffmookkkdabDoor
open Go.RowKit
theorem levels_c (f : Int) (a : Option Addr) (l : List Int) (cap s m E : Nat) (w : World) (ht : Tab w) (h : VecOk f l) (hs : Src w a l.length (lf l)) (hE : E = s + m) (hEk : (E : Int) ≤ mLog l.length) :
    Calls Tryd.prog 63 #[.int .i64 f, .slice a l.length cap, .int .i64 s, .int .i64 E] w (OwnG w (lvL f l s m)) := by
  obtain ⟨k, k9, hn, hl, hh⟩ := h.log
  obtain ⟨b, off, rfl, hlt, hc⟩ := vec_some hs h.pos.1
  obtain ⟨h0, h8⟩ := h.f08
  by_cases hP : P f < 65536
  · have H := Lib.hid (levelsIn_uint32 f l b off l.length cap s m k E w ht h hP rfl hn k9 hh hl hE (by omega) hlt hc)
    have hd : decide (P f < 65536) = true := decide_eq_true hP
    clear hs hc hE hEk hn hl hh h
    go_enter Tryd.func63, Tryd.ntmps63
    go_wp2_with fail
    refine (prime_c f w ht h0 h8).mono ?_
    rintro e w' ⟨rfl, rfl⟩
    go_wp2_with fail
    refine H.out.mono ?_
    rintro e w' ⟨g, rfl, hr⟩
    have HR := Lib.hid hr
    clear hr
    go_wp2
    go_ret
    exact ⟨g, rfl, HR.out⟩
  · have H := Lib.hid (levelsIn_uint64 f l b off l.length cap s m k E w ht h rfl hn k9 hh hl hE (by omega) hlt hc)
    have hd : decide (P f < 65536) = false := decide_eq_false hP
    clear hs hc hE hEk hn hl hh h
    go_enter Tryd.func63, Tryd.ntmps63
    go_wp2_with fail
    refine (prime_c f w ht h0 h8).mono ?_
    rintro e w' ⟨rfl, rfl⟩
    go_wp2_with fail
    refine H.out.mono ?_
    rintro e w' ⟨g, rfl, hr⟩
    have HR := Lib.hid hr
    clear hr
    go_wp2
    go_ret
    exact ⟨g, rfl, HR.out⟩
end Go.Proofs.YtnipffmookkkdabDoor
namespace Go.Proofs.YtnipffmookkkdabDoor
open Go.RowKit
theorem dot_sumP {f : Int} (h0 : 0 ≤ f) (h8 : f ≤ 8) (A B : Nat → Int) (k : Nat) : dotF f A B k = RS (sumN (fun j => A j * B j) k) (P f) := by
  induction k with
  | zero => simp [dotF, sumN, RS]
  | succ k ih =>
    rw [dotF, ih, mAdd, if_pos ⟨h0, h8⟩, mMul, if_pos ⟨h0, h8⟩, RS_add]
    rfl
theorem transform_c (f : Int) (a : Option Addr) (l : List Int) (cap : Nat) (w : World) (ht : Tab w) (h : VecOk f l) (hs : Src w a l.length (lf l)) : Calls Tryd.prog 56 #[.int .i64 f, .slice a l.length cap] w (OwnG w (fwdL f l)) := by
  obtain ⟨k, k9, hn, hl, hh⟩ := h.log
  have HP := Lib.hid (iPermute a l.length cap k (lf l) w k9 hn hs)
  have HL : Hid (∀ w, Calls Tryd.prog 61 #[.int .i64 l.length] w fun e w' => e = .returned (.int .i64 k) ∧ w = w') := Lib.hid fun w => by have := iLogOf l.length w; rwa [hl] at this
  have hpl := permL_len l k
  have HV : Hid (∀ (g : Nat) (w1 : World), Tab w1 → Own w1 g l.length (fun j => lf l (rv j k)) → Calls Tryd.prog 63 #[.int .i64 f, .slice (some ⟨g, 0, none⟩) l.length l.length, .int .i64 0, .int .i64 k] w1 (OwnG w1 (fwdL f l))) := Lib.hid fun g w1 ht1 ho => by
    have hsrc : Src w1 (some ⟨g, 0, none⟩) (permL l k).length (lf (permL l k)) := by
      rw [hpl]
      exact (own_congr ho rfl (fun j hj => by unfold permL; rw [lf_tab, if_pos hj])).src
    have := levels_c f (some ⟨g, 0, none⟩) (permL l k) l.length 0 k k w1 ht1 (h.perm k) hsrc (by omega) (by rw [hpl, hl]; exact Int.le_refl _)
    rw [lv_fwd h hn, hpl] at this
    exact this
  clear hs hn hl hh h hpl
  go_enter Tryd.func56, Tryd.ntmps56
  go_wp2_with fail
  refine HP.out.mono ?_
  rintro e w1 ⟨rfl, o1, b1⟩
  have HO1 := Lib.hid o1
  clear o1 HP
  go_wp2_with fail
  refine (HL.out w1).mono ?_
  rintro e w' ⟨rfl, rfl⟩
  go_wp2_with fail
  refine (HV.out w.heap.size w1 (ht.below b1) HO1.out).mono ?_
  rintro e w2 h2
  have HR := Lib.hid (h2.up b1)
  obtain ⟨g, rfl, _⟩ := h2
  clear HV HO1
  go_wp2
  go_ret
  exact HR.out
set_option maxRecDepth 100000 in
set_option maxHeartbeats 1600000 in
theorem transformBack_c (f : Int) (a : Option Addr) (l : List Int) (cap : Nat) (w : World) (ht : Tab w) (h : VecOk f l) (hs : Src w a l.length (lf l)) : Calls Tryd.prog 55 #[.int .i64 f, .slice a l.length cap] w (OwnG w (bwdL f l)) := by
  obtain ⟨h0, h8⟩ := h.f08
  have hpos := h.pos
  have hp := P_bd h0 h8
  have HT := Lib.hid (transform_c f a l cap w ht h hs)
  have hfl := fwdL_len f l
  have hml := mirL_len (fwdL f l)
  obtain ⟨k, k9, hn, hl, hh⟩ := h.log
  have hle : (l.length : Int) < P f := by
    have hle := two_le hh
    have e : two (k : Int) = (l.length : Int) := by unfold two; rw [hn, Int.toNat_natCast, Int.natCast_pow]; rfl
    omega
  have hinv : PW (P f) (l.length : Int) (P f - 2) = mPower f l.length (-1) := by
    rw [inverse_inv h0 h8 (by omega) hle]
    unfold invF
    rw [RS_self (by omega) hle, if_neg (by omega)]
  have HI : Hid (∀ w, Tab w → Calls Tryd.prog 90 #[.int .i64 f, .int .i64 l.length] w fun e w' => e = .returned (.int .i64 (mPower f l.length (-1))) ∧ w = w') := Lib.hid fun w ht => by
    have := inverse_c f l.length w ht h0 h8 (by omega) hle
    rwa [hinv] at this
  have hib : 0 ≤ mPower f l.length (-1) ∧ mPower f l.length (-1) < P f := by
    have := (inv_one h0 h8 (z := (l.length : Int)) (by rw [RS_self (by omega) hle]; omega)).2
    omega
  have HEQ : Hid (∀ j, j < l.length → RS (lf (mirL (fwdL f l)) j * mPower f l.length (-1)) (P f) = lf (bwdL f l) j) := Lib.hid fun j hj => bwd_by_fwd h hj
  have HFB : Hid (∀ j, 0 ≤ lf (mirL (fwdL f l)) j ∧ lf (mirL (fwdL f l)) j < P f) := Lib.hid fun j => h.fwd.mir.lt j
  have HMR : Hid (∀ (g : Nat) (w1 : World), Own w1 g l.length (lf (fwdL f l)) → Calls Tryd.prog 60 #[.slice (some ⟨g, 0, none⟩) l.length l.length] w1 fun e w' => ∃ g2, e = .returned (.slice (some ⟨g2, 0, none⟩) l.length l.length) ∧ w1.heap.size ≤ g2 ∧ Own w' g2 l.length (lf (mirL (fwdL f l))) ∧ Below w1.heap.size w1 w') := Lib.hid fun g w1 ho => by
    have hsrc : Src w1 (some ⟨g, 0, none⟩) (fwdL f l).length (lf (fwdL f l)) := by rw [hfl]; exact ho.src
    have := mirrored_c (some ⟨g, 0, none⟩) (fwdL f l) l.length w1 (by omega) (by omega) hsrc
    rw [hfl] at this
    refine this.mono ?_
    rintro e w' ⟨g2, rfl, hg2, ho2, hb2⟩
    rw [hml, hfl] at ho2
    refine ⟨g2, ?_, hg2, ho2, hb2⟩
    rw [hml, hfl]
  have HBL := Lib.hid (bwdL_len f l)
  have HFL := Lib.hid hfl
  clear hs hn hl hh h hfl hml hinv hle
  generalize mPower f l.length (-1) = c at *
  generalize hnn : l.length = n at *
  generalize lf (mirL (fwdL f l)) = M at *
  clear hnn
  go_enter Tryd.func55, Tryd.ntmps55
  go_wp2_with fail
  refine HT.out.mono ?_
  rintro e w1 ⟨g, rfl, hg, o1, b1⟩
  rw [HFL.out] at o1 ⊢
  have HO1 := Lib.hid o1
  clear o1 HT
  go_wp2_with fail
  refine (HMR.out g w1 HO1.out).mono ?_
  rintro e w2 ⟨g2, rfl, hg2, o2, b2⟩
  have HO2 := Lib.hid o2
  have b3 := below_up b1 b2 b1.size
  have hg3 : w.heap.size ≤ g2 := Nat.le_trans b1.size hg2
  clear o2 HO1 HMR b1 b2 hg hg2
  go_wp2_with fail
  refine (HI.out w2 (ht.below b3)).mono ?_
  rintro e w' ⟨rfl, rfl⟩
  clear HI
  go_wp2_with fail
  go_loopw [7, 8, 19] (fun _ _ i wr => ∃ j : Nat, i = .int .i64 j ∧ j ≤ n ∧ Own wr g2 n (fun x => if x < j then RS (M x * c) (P f) else M x) ∧ Below w.heap.size w wr) (fun _ _ i _ => n - (intOf i).toNat)
  case atStart => exact ⟨0, rfl, Nat.zero_le _, own_congr HO2.out rfl (fun j _ => by simp), b3⟩
  case round =>
    clear HO2 b3
    obtain ⟨j, rfl, hj, ho, hb⟩ := hrel
    by_cases h1 : j < n
    · have c1 : wr.cell? ⟨g2, j, none⟩ = some (.int .i64 (M j)) := by have := World.rowIs.cell ho h1; simpa using this
      have c4 := World.rowIs.frozen ho j
      have hd1 : decide ((j : Int) < n) = true := decide_eq_true (by omega)
      have HS : Hid (Own (wr.setCell ⟨g2, j, none⟩ (.int .i64 (RS (M j * c) (P f)))) g2 n (fun x => if x < j + 1 then RS (M x * c) (P f) else M x)) := Lib.hid ((World.rowIs.set ho j (.int .i64 (RS (M j * c) (P f)))).congr fun x _ => by
        by_cases e : x = j
        · subst e; simp
        · by_cases e2 : x < j
          · simp [e, e2, show x < j + 1 by omega]
          · simp [e, e2, show ¬ x < j + 1 by omega])
      have hm := HFB.out j
      clear ho
      go_wp2_with fail
      refine (mul_c f (M j) c wr (ht.below hb) h0 h8 hm.1 hm.2 hib.1 hib.2).mono ?_
      rintro e w' ⟨rfl, rfl⟩
      go_wp2
      go_roundw
      case rel => exact ⟨j + 1, by go_num, by omega, HS.out, hb.setCell hg3 _⟩
      case measure => simp [intOf]; omega
    · have hd1 : decide ((j : Int) < n) = false := decide_eq_false (by omega)
      obtain rfl : j = n := by omega
      have HF : Hid (OwnG w (bwdL f l) (.returned (.slice (some ⟨g2, 0, none⟩) j j)) wr) := Lib.hid (OwnG.of_own ho HBL.out.symm hg3 (fun x hx => by simp [hx]; exact HEQ.out x hx) hb)
      clear ho
      go_wp2
      go_ret
      exact HF.out
theorem cyclic_c (f : Int) (a : Option Addr) (l : List Int) (cap : Nat) (a2 : Option Addr) (m : List Int) (cap2 : Nat) (w : World) (ht : Tab w) (h : TwoOk f l m) (hs : Src w a l.length (lf l)) (hs2 : Src w a2 m.length (lf m)) : Calls Tryd.prog 50 #[.int .i64 f, .slice a l.length cap, .slice a2 m.length cap2] w (OwnG w (cycL f l m)) := by
  have HT1 := Lib.hid (transform_c f a l cap w ht h.2.1 hs)
  have HT2 : Hid (∀ w1, Below w.heap.size w w1 → Calls Tryd.prog 56 #[.int .i64 f, .slice a2 m.length cap2] w1 (OwnG w1 (fwdL f m))) := Lib.hid fun w1 hb => transform_c f a2 m cap2 w1 (ht.below hb) h.2.2 (hs2.keep hb)
  have hfl := fwdL_len f l
  have hfm := fwdL_len f m
  have h2 : TwoOk f (fwdL f l) (fwdL f m) := ⟨by rw [hfl, hfm, h.1], h.2.1.fwd, h.2.2.fwd⟩
  have HPW : Hid (∀ (g g2 : Nat) (w1 : World), Tab w1 → Own w1 g (fwdL f l).length (lf (fwdL f l)) → Own w1 g2 (fwdL f m).length (lf (fwdL f m)) → Calls Tryd.prog 59 #[.int .i64 f, .slice (some ⟨g, 0, none⟩) (fwdL f l).length (fwdL f l).length, .slice (some ⟨g2, 0, none⟩) (fwdL f m).length (fwdL f m).length] w1 (OwnG w1 (ptwL f (fwdL f l) (fwdL f m)))) := Lib.hid fun g g2 w1 ht1 o1 o2 => pointwise_c f _ _ _ _ _ _ w1 o1.src o2.src ht1 h2
  have hv : VecOk f (ptwL f (fwdL f l) (fwdL f m)) := h2.2.1.tab rfl _ fun _ _ => RS_bd (P_pos h.2.1.f08.1 h.2.1.f08.2)
  have HB : Hid (∀ (g : Nat) (w1 : World), Tab w1 → Own w1 g (ptwL f (fwdL f l) (fwdL f m)).length (lf (ptwL f (fwdL f l) (fwdL f m))) → Calls Tryd.prog 55 #[.int .i64 f, .slice (some ⟨g, 0, none⟩) (ptwL f (fwdL f l) (fwdL f m)).length (ptwL f (fwdL f l) (fwdL f m)).length] w1 (OwnG w1 (cycL f l m))) := Lib.hid fun g w1 ht1 o1 => by
    have := transformBack_c f (some ⟨g, 0, none⟩) _ (ptwL f (fwdL f l) (fwdL f m)).length w1 ht1 hv o1.src
    rwa [cyc_by_fwd h] at this
  clear hs hs2 h h2 hv hfl hfm
  generalize ptwL f (fwdL f l) (fwdL f m) = PT at *
  generalize fwdL f l = FL at *
  generalize fwdL f m = FM at *
  go_enter Tryd.func50, Tryd.ntmps50
  go_wp2_with fail
  refine HT1.out.mono ?_
  rintro e w1 ⟨g, rfl, hg, o1, b1⟩
  have HO1 := Lib.hid o1
  clear o1 HT1
  go_wp2_with fail
  refine (HT2.out w1 b1).mono ?_
  rintro e w2 ⟨g2, rfl, hg2, o2, b2⟩
  have HO2 := Lib.hid o2
  have HO3 := Lib.hid (HO1.out.keep b2)
  have b3 := below_up b1 b2 b1.size
  clear o2 HT2 b1 b2 HO1
  go_wp2_with fail
  refine (HPW.out g g2 w2 (ht.below b3) HO3.out HO2.out).mono ?_
  rintro e w3 ⟨g3, rfl, hg3, o3, b4⟩
  have HO4 := Lib.hid o3
  have b5 := below_up b3 b4 b3.size
  clear o3 b3 b4 HPW HO2 HO3
  go_wp2_with fail
  refine (HB.out g3 w3 (ht.below b5) HO4.out).mono ?_
  rintro e w4 h4
  have HR := Lib.hid (h4.up b5)
  obtain ⟨g4, rfl, _⟩ := h4
  clear HB HO4
  go_wp2
  go_ret
  exact HR.out
theorem twi_at {f : Int} {n : Nat} {A B : Nat → Int} (hA : ∀ j, n ≤ j → A j = 0) (hB : ∀ j, n ≤ j → B j = 0) {x : Nat} (hx : x < n) :
    (if x < n - 1 then RS (RS (cpar A B x n) (P f) - RS (cpar A B (n + x) n) (P f)) (P f) else RS (cpar A B x n) (P f)) = RS (twiF n A B x) (P f) := by
  rw [twi_fold hx hA hB, cpar_end x hA, cpar_end (n + x) hA, Nat.add_comm n x]
  by_cases h : x < n - 1
  · rw [if_pos h]
    unfold RS
    rw [← Int.sub_emod]
  · rw [if_neg h, cv_out (k := x + n) hA hB (by omega), Int.sub_zero]
set_option maxRecDepth 100000 in
set_option maxHeartbeats 1600000 in
theorem twisted_some (f : Int) (b off b2 off2 n cap cap2 : Nat) (A B : Nat → Int) (w : World) (ht : Tab w) (h0 : 0 ≤ f) (h8 : f ≤ 8) (n0 : 0 < n) (hn : n ≤ 512) (hA : ∀ j, 0 ≤ A j ∧ A j < P f) (hB : ∀ j, 0 ≤ B j ∧ B j < P f) (hB2 : ∀ j, n ≤ j → B j = 0) (hlt : b < w.heap.size) (hlt2 : b2 < w.heap.size)
    (hc : ∀ j, j < n → w.cell? ⟨b, off + j, none⟩ = some (.int .i64 (A j))) (hc2 : ∀ j, j < n → w.cell? ⟨b2, off2 + j, none⟩ = some (.int .i64 (B j))) :
    Calls Tryd.prog 80 #[.int .i64 f, .slice (some ⟨b, off, none⟩) n cap, .slice (some ⟨b2, off2, none⟩) n cap2] w fun e w' => ∃ g, e = .returned (.slice (some ⟨g, 0, none⟩) n n) ∧ w.heap.size ≤ g ∧ Own w' g n (fun x => if x < n - 1 then RS (RS (cpar A B x n) (P f) - RS (cpar A B (n + x) n) (P f)) (P f) else RS (cpar A B x n) (P f)) ∧ Below w.heap.size w w' := by
  have hp := P_bd h0 h8
  obtain ⟨N, hN⟩ : ∃ N, n + n = N + 1 := ⟨n + n - 1, by omega⟩
  have HPR := Lib.hid (product_some f b off b2 off2 n n cap cap2 N A B w ht h0 h8 (by omega) (by omega) n0 n0 hN hA hB hB2 hlt hlt2 hc hc2)
  obtain ⟨C, hC⟩ : ∃ C : Nat → Int, C = fun k => RS (cpar A B k n) (P f) := ⟨_, rfl⟩
  have HCB : Hid (∀ j, 0 ≤ C j ∧ C j < P f) := Lib.hid fun j => by rw [hC]; exact RS_bd (by omega)
  have hmk := made_n n (by omega)
  obtain ⟨q, hq⟩ : ∃ q, n = q + 1 := ⟨n - 1, by omega⟩
  have HG : Hid (∀ (g : Nat) (e : Ending) (w' : World), e = .returned (.slice (some ⟨g, 0, none⟩) n n) → w.heap.size ≤ g → Own w' g n (fun x => if x < q then RS (C x - C (n + x)) (P f) else C x) → Below w.heap.size w w' → ∃ g, e = .returned (.slice (some ⟨g, 0, none⟩) n n) ∧ w.heap.size ≤ g ∧ Own w' g n (fun x => if x < n - 1 then RS (RS (cpar A B x n) (P f) - RS (cpar A B (n + x) n) (P f)) (P f) else RS (cpar A B x n) (P f)) ∧ Below w.heap.size w w') := Lib.hid fun g e w' h1 h2 h3 h4 => ⟨g, h1, h2, by rw [hC] at h3; rw [show n - 1 = q by omega]; exact h3, h4⟩
  have HSL : Hid (∀ g : Nat, ∃ p : Option Addr, (0 < q → p = some ⟨g, n, none⟩) ∧ ∀ w : World, (Instr.slice 22 (.slice (some ⟨g, 0, none⟩) N N) (some (.int .i64 n)) none none).run Tryd.prog w = .ok (.slice p q q) w) := Lib.hid fun g => by
    obtain ⟨i, hi, hzz⟩ := Option.map_eq_some_iff.1 info3
    simp only [Prod.mk.injEq] at hzz
    by_cases hz : q = 0
    · refine ⟨some ⟨g, 0, none⟩, fun h => absurd hz (by omega), fun w => ?_⟩
      have e1 : N = n := by omega
      have e2 : n = 1 := by omega
      subst e1
      simp [Instr.slice, run_underlying Tryd.underlying22, Instr.sliceBounds, Instr.sliceBound, asIntOf, sizeOf, typeInfo, hi, hz]
    · refine ⟨some ⟨g, n, none⟩, fun _ => rfl, fun w => ?_⟩
      have e1 : ¬ N = n := by omega
      have e2 : n ≤ N := by omega
      have e3 : N - n = q := by omega
      simp [Instr.slice, run_underlying Tryd.underlying22, Instr.sliceBounds, Instr.sliceBound, asIntOf, sizeOf, typeInfo, hi, hzz.2.1, e1, e2, e3, Addr.add_lit]
  rw [← hC] at HPR
  have HQ := Lib.hid hq
  have HNN := Lib.hid hN
  clear hc hc2 hA hB hB2 hq hN hC
  go_enter Tryd.func80, Tryd.ntmps80
  go_wp2_with fail
  refine HPR.out.mono ?_
  rintro e w1 ⟨rfl, o1, b1⟩
  have HO1 := Lib.hid o1
  have HS1 := Lib.hid o1.src
  clear o1 HPR
  have hz1 := b1.size
  have hnN : n ≤ N := by have := HNN.out; omega
  go_wp2_with (with_reducible refine wpList_copy_made rfl _ _ rfl n 0 n n N N _ _ C rfl rfl (fun _ => rfl) hnN (by omega) HS1.out ?_)
  intro w2 HO2 b2
  have HO3 : Hid (Own w2 w1.heap.size n C) := Lib.hid (own_congr HO2.out rfl (fun j hj => show _ = C j by simp [hj]))
  have HO4 := Lib.hid (HO1.out.keep b2)
  have b3 := below_up b1 b2 b1.size
  obtain ⟨p, hpp, hsl⟩ := HSL.out w.heap.size
  have HPP := Lib.hid hpp
  have hg1 : w1.heap.size ≠ w.heap.size := by have := HO1.out.lt; omega
  clear hmk HO1 HO2 HS1 b1 b2 hpp HSL
  go_wp2_with fail
  clear hsl
  go_loopw [9, 10, 26] (fun _ _ i wr => ∃ j : Nat, i = .int .i64 j ∧ j ≤ q ∧ Own wr w1.heap.size n (fun x => if x < j then RS (C x - C (n + x)) (P f) else C x) ∧ Own wr w.heap.size N C ∧ Below w.heap.size w wr) (fun _ _ i _ => q - (intOf i).toNat)
  case atStart => exact ⟨0, rfl, Nat.zero_le _, own_congr HO3.out rfl (fun j _ => by simp), HO4.out, b3⟩
  case round =>
    clear HO3 HO4 b3
    obtain ⟨j, rfl, hj, ho, ho1, hb⟩ := hrel
    by_cases h1 : j < q
    · have hjn : j < n := by have := HQ.out; omega
      have hp1 := HPP.out (by omega)
      subst hp1
      have c0 : wr.cell? ⟨w.heap.size, n + j, none⟩ = some (.int .i64 (C (n + j))) := World.rowIs.cell ho1 (by have := HQ.out; have := HNN.out; omega)
      have c1 : wr.cell? ⟨w1.heap.size, j, none⟩ = some (.int .i64 (C j)) := by have := World.rowIs.cell ho hjn; simpa using this
      have c4 := World.rowIs.frozen ho j
      have hd1 : decide ((j : Int) < q) = true := decide_eq_true (by omega)
      have hjn2 : (j : Int) < n := by omega
      have HS : Hid (Own (wr.setCell ⟨w1.heap.size, j, none⟩ (.int .i64 (RS (C j - C (n + j)) (P f)))) w1.heap.size n (fun x => if x < j + 1 then RS (C x - C (n + x)) (P f) else C x)) := Lib.hid ((World.rowIs.set ho j (.int .i64 (RS (C j - C (n + j)) (P f)))).congr fun x _ => by
        by_cases e : x = j
        · subst e; simp
        · by_cases e2 : x < j
          · simp [e, e2, show x < j + 1 by omega]
          · simp [e, e2, show ¬ x < j + 1 by omega])
      have HS2 : Hid (Own (wr.setCell ⟨w1.heap.size, j, none⟩ (.int .i64 (RS (C j - C (n + j)) (P f)))) w.heap.size N C) := Lib.hid (World.rowIs.setOther ho1 (fun e => hg1 e.symm) _)
      have hm1 := HCB.out j
      have hm2 := HCB.out (n + j)
      clear ho ho1
      go_wp2_with fail
      refine (sub_c f (C j) (C (n + j)) wr (ht.below hb) h0 h8 hm1.1 hm1.2 hm2.1 hm2.2).mono ?_
      rintro e w' ⟨rfl, rfl⟩
      go_wp2
      go_roundw
      case rel => exact ⟨j + 1, by go_num, by omega, HS.out, HS2.out, hb.setCell hz1 _⟩
      case measure => simp [intOf]; omega
    · have hd1 : decide ((j : Int) < q) = false := decide_eq_false (by omega)
      obtain rfl : j = q := by omega
      have HF := Lib.hid (HG.out w1.heap.size _ wr rfl hz1 ho hb)
      clear ho ho1 HG
      go_wp2
      go_ret
      exact HF.out
theorem twisted_c (f : Int) (a : Option Addr) (l : List Int) (cap : Nat) (a2 : Option Addr) (m : List Int) (cap2 : Nat) (w : World) (ht : Tab w) (h : TwoOk f l m) (hs : Src w a l.length (lf l)) (hs2 : Src w a2 m.length (lf m)) : Calls Tryd.prog 80 #[.int .i64 f, .slice a l.length cap, .slice a2 m.length cap2] w (OwnG w (twiL f l m)) := by
  obtain ⟨hlm, hl, hm⟩ := h
  have hp := hl.pos
  obtain ⟨b, off, rfl, hlt, hc⟩ := vec_some hs hp.1
  obtain ⟨b2, off2, rfl, hlt2, hc2⟩ := vec_some hs2 hm.pos.1
  rw [← hlm] at hc2 ⊢
  refine (twisted_some f b off b2 off2 l.length cap cap2 (lf l) (lf m) w ht hl.f08.1 hl.f08.2 hp.1 hp.2 hl.lt hm.lt (fun j hj => lf_out m (by omega)) hlt hlt2 hc hc2).mono ?_
  rintro e w' ⟨g, rfl, hg, ho, hb⟩
  exact OwnG.of_own ho (tab_len _ _).symm hg (fun j hj => by unfold twiL; rw [lf_tab, if_pos hj]; exact twi_at (fun t ht => lf_out l ht) (fun t ht => lf_out m (by omega)) hj) hb
theorem iForward (f : Int) (a : Option Addr) (l : List Int) (cap : Nat) (w : World) (hn : l.length ≤ 1048576) (hs : Src w a l.length (lf l)) (ht : Tab w) : Calls Tryd.prog 21 #[.int .i64 f, .slice a l.length cap] w (OwnL w (mForward f l)) := by
  have R1 := iVectorOk f a l cap w hn hs ht
  by_cases h : VecOk f l
  · rw [vok_iff.2 h] at R1
    rw [show mForward f l = fwdL f l by unfold mForward; rw [if_pos h]]
    have HR1 := Lib.hid R1
    have HT := Lib.hid (transform_c f a l cap w ht h hs)
    clear R1 hs h
    go_enter Tryd.func21, Tryd.ntmps21
    go_wp2_with fail
    refine HR1.out.mono ?_
    rintro e w' ⟨rfl, rfl⟩
    go_wp2_with fail
    refine HT.out.mono ?_
    rintro e w1 h1
    have HR := Lib.hid h1.own
    obtain ⟨g, rfl, _⟩ := h1
    go_wp2
    go_ret
    exact HR.out
  · rw [vok_not.2 h] at R1
    rw [show mForward f l = [] by unfold mForward; rw [if_neg h]]
    have HR1 := Lib.hid R1
    clear R1 hs h
    go_enter Tryd.func21, Tryd.ntmps21
    go_wp2_with fail
    refine HR1.out.mono ?_
    rintro e w' ⟨rfl, rfl⟩
    go_wp2
    go_ret
    exact ⟨none, 0, rfl, OwnA.nil rfl, Below.refl _ _⟩
theorem iBackward (f : Int) (a : Option Addr) (l : List Int) (cap : Nat) (w : World) (hn : l.length ≤ 1048576) (hs : Src w a l.length (lf l)) (ht : Tab w) : Calls Tryd.prog 20 #[.int .i64 f, .slice a l.length cap] w (OwnL w (mBackward f l)) := by
  have R1 := iVectorOk f a l cap w hn hs ht
  by_cases h : VecOk f l
  · rw [vok_iff.2 h] at R1
    rw [show mBackward f l = bwdL f l by unfold mBackward; rw [if_pos h]]
    have HR1 := Lib.hid R1
    have HT := Lib.hid (transformBack_c f a l cap w ht h hs)
    clear R1 hs h
    go_enter Tryd.func20, Tryd.ntmps20
    go_wp2_with fail
    refine HR1.out.mono ?_
    rintro e w' ⟨rfl, rfl⟩
    go_wp2_with fail
    refine HT.out.mono ?_
    rintro e w1 h1
    have HR := Lib.hid h1.own
    obtain ⟨g, rfl, _⟩ := h1
    go_wp2
    go_ret
    exact HR.out
  · rw [vok_not.2 h] at R1
    rw [show mBackward f l = [] by unfold mBackward; rw [if_neg h]]
    have HR1 := Lib.hid R1
    clear R1 hs h
    go_enter Tryd.func20, Tryd.ntmps20
    go_wp2_with fail
    refine HR1.out.mono ?_
    rintro e w' ⟨rfl, rfl⟩
    go_wp2
    go_ret
    exact ⟨none, 0, rfl, OwnA.nil rfl, Below.refl _ _⟩
theorem iPointwise (f : Int) (a : Option Addr) (l : List Int) (cap : Nat) (a2 : Option Addr) (m : List Int) (cap2 : Nat) (w : World) (hn : l.length ≤ 1048576) (hn2 : m.length ≤ 1048576) (hs : Src w a l.length (lf l)) (hs2 : Src w a2 m.length (lf m)) (ht : Tab w) : Calls Tryd.prog 25 #[.int .i64 f, .slice a l.length cap, .slice a2 m.length cap2] w (OwnL w (mPointwise f l m)) := by
  have R1 := areVectors_c f a a2 l m cap cap2 w hn hn2 hs hs2 ht
  by_cases h : TwoOk f l m
  · rw [two_iff.2 h] at R1
    rw [show mPointwise f l m = ptwL f l m by unfold mPointwise; rw [if_pos h]]
    have HR1 := Lib.hid R1
    have HT := Lib.hid (pointwise_c f a l cap a2 m cap2 w hs hs2 ht h)
    clear R1 hs hs2 h
    go_enter Tryd.func25, Tryd.ntmps25
    go_wp2_with fail
    refine HR1.out.mono ?_
    rintro e w' ⟨rfl, rfl⟩
    go_wp2_with fail
    refine HT.out.mono ?_
    rintro e w1 h1
    have HR := Lib.hid h1.own
    obtain ⟨g, rfl, _⟩ := h1
    go_wp2
    go_ret
    exact HR.out
  · rw [two_not.2 h] at R1
    rw [show mPointwise f l m = [] by unfold mPointwise; rw [if_neg h]]
    have HR1 := Lib.hid R1
    clear R1 hs hs2 h
    go_enter Tryd.func25, Tryd.ntmps25
    go_wp2_with fail
    refine HR1.out.mono ?_
    rintro e w' ⟨rfl, rfl⟩
    go_wp2
    go_ret
    exact ⟨none, 0, rfl, OwnA.nil rfl, Below.refl _ _⟩
theorem iCyclic (f : Int) (a : Option Addr) (l : List Int) (cap : Nat) (a2 : Option Addr) (m : List Int) (cap2 : Nat) (w : World) (hn : l.length ≤ 1048576) (hn2 : m.length ≤ 1048576) (hs : Src w a l.length (lf l)) (hs2 : Src w a2 m.length (lf m)) (ht : Tab w) : Calls Tryd.prog 24 #[.int .i64 f, .slice a l.length cap, .slice a2 m.length cap2] w (OwnL w (mCyclic f l m)) := by
  have R1 := areVectors_c f a a2 l m cap cap2 w hn hn2 hs hs2 ht
  by_cases h : TwoOk f l m
  · rw [two_iff.2 h] at R1
    rw [show mCyclic f l m = cycL f l m by unfold mCyclic; rw [if_pos h]]
    have HR1 := Lib.hid R1
    have HT := Lib.hid (cyclic_c f a l cap a2 m cap2 w ht h hs hs2)
    clear R1 hs hs2 h
    go_enter Tryd.func24, Tryd.ntmps24
    go_wp2_with fail
    refine HR1.out.mono ?_
    rintro e w' ⟨rfl, rfl⟩
    go_wp2_with fail
    refine HT.out.mono ?_
    rintro e w1 h1
    have HR := Lib.hid h1.own
    obtain ⟨g, rfl, _⟩ := h1
    go_wp2
    go_ret
    exact HR.out
  · rw [two_not.2 h] at R1
    rw [show mCyclic f l m = [] by unfold mCyclic; rw [if_neg h]]
    have HR1 := Lib.hid R1
    clear R1 hs hs2 h
    go_enter Tryd.func24, Tryd.ntmps24
    go_wp2_with fail
    refine HR1.out.mono ?_
    rintro e w' ⟨rfl, rfl⟩
    go_wp2
    go_ret
    exact ⟨none, 0, rfl, OwnA.nil rfl, Below.refl _ _⟩
theorem iTwisted (f : Int) (a : Option Addr) (l : List Int) (cap : Nat) (a2 : Option Addr) (m : List Int) (cap2 : Nat) (w : World) (hn : l.length ≤ 1048576) (hn2 : m.length ≤ 1048576) (hs : Src w a l.length (lf l)) (hs2 : Src w a2 m.length (lf m)) (ht : Tab w) : Calls Tryd.prog 42 #[.int .i64 f, .slice a l.length cap, .slice a2 m.length cap2] w (OwnL w (mTwisted f l m)) := by
  have R1 := areVectors_c f a a2 l m cap cap2 w hn hn2 hs hs2 ht
  by_cases h : TwoOk f l m
  · rw [two_iff.2 h] at R1
    rw [show mTwisted f l m = twiL f l m by unfold mTwisted; rw [if_pos h]]
    have HR1 := Lib.hid R1
    have HT := Lib.hid (twisted_c f a l cap a2 m cap2 w ht h hs hs2)
    clear R1 hs hs2 h
    go_enter Tryd.func42, Tryd.ntmps42
    go_wp2_with fail
    refine HR1.out.mono ?_
    rintro e w' ⟨rfl, rfl⟩
    go_wp2_with fail
    refine HT.out.mono ?_
    rintro e w1 h1
    have HR := Lib.hid h1.own
    obtain ⟨g, rfl, _⟩ := h1
    go_wp2
    go_ret
    exact HR.out
  · rw [two_not.2 h] at R1
    rw [show mTwisted f l m = [] by unfold mTwisted; rw [if_neg h]]
    have HR1 := Lib.hid R1
    clear R1 hs hs2 h
    go_enter Tryd.func42, Tryd.ntmps42
    go_wp2_with fail
    refine HR1.out.mono ?_
    rintro e w' ⟨rfl, rfl⟩
    go_wp2
    go_ret
    exact ⟨none, 0, rfl, OwnA.nil rfl, Below.refl _ _⟩
theorem iCorrelate (f : Int) (a : Option Addr) (l : List Int) (cap : Nat) (a2 : Option Addr) (m : List Int) (cap2 : Nat) (w : World) (hn : l.length ≤ 1048576) (hn2 : m.length ≤ 1048576) (hs : Src w a l.length (lf l)) (hs2 : Src w a2 m.length (lf m)) (ht : Tab w) : Calls Tryd.prog 26 #[.int .i64 f, .slice a l.length cap, .slice a2 m.length cap2] w (OwnL w (mCorrelate f l m)) := by
  have R1 := areVectors_c f a a2 l m cap cap2 w hn hn2 hs hs2 ht
  by_cases h : TwoOk f l m
  · rw [two_iff.2 h] at R1
    rw [show mCorrelate f l m = corL f l m by unfold mCorrelate; rw [if_pos h]]
    have HR1 := Lib.hid R1
    have hml := mirL_len l
    have HMR := Lib.hid (mirrored_c a l cap w h.2.1.pos.1 hn hs)
    have HT : Hid (∀ (g : Nat) (w1 : World), Below w.heap.size w w1 → Own w1 g (mirL l).length (lf (mirL l)) → Calls Tryd.prog 50 #[.int .i64 f, .slice (some ⟨g, 0, none⟩) (mirL l).length (mirL l).length, .slice a2 m.length cap2] w1 (OwnG w1 (corL f l m))) := Lib.hid fun g w1 hb o1 => by
      have := cyclic_c f (some ⟨g, 0, none⟩) (mirL l) (mirL l).length a2 m cap2 w1 (ht.below hb) ⟨by rw [hml, h.1], h.2.1.mir, h.2.2⟩ o1.src (hs2.keep hb)
      rwa [cor_by_cyc h] at this
    clear R1 hs hs2 h hml
    generalize mirL l = ML at *
    go_enter Tryd.func26, Tryd.ntmps26
    go_wp2_with fail
    refine HR1.out.mono ?_
    rintro e w' ⟨rfl, rfl⟩
    go_wp2_with fail
    refine HMR.out.mono ?_
    rintro e w1 ⟨g, rfl, hg, o1, b1⟩
    have HO1 := Lib.hid o1
    clear o1
    go_wp2_with fail
    refine (HT.out g w1 b1 HO1.out).mono ?_
    rintro e w2 h2
    have HR := Lib.hid (h2.up b1).own
    obtain ⟨g2, rfl, _⟩ := h2
    clear HO1 HT HMR
    go_wp2
    go_ret
    exact HR.out
  · rw [two_not.2 h] at R1
    rw [show mCorrelate f l m = [] by unfold mCorrelate; rw [if_neg h]]
    have HR1 := Lib.hid R1
    clear R1 hs hs2 h
    go_enter Tryd.func26, Tryd.ntmps26
    go_wp2_with fail
    refine HR1.out.mono ?_
    rintro e w' ⟨rfl, rfl⟩
    go_wp2
    go_ret
    exact ⟨none, 0, rfl, OwnA.nil rfl, Below.refl _ _⟩
theorem iEnergy (f : Int) (a : Option Addr) (l : List Int) (cap : Nat) (w : World) (hn : l.length ≤ 1048576) (hs : Src w a l.length (lf l)) (ht : Tab w) : Calls Tryd.prog 34 #[.int .i64 f, .slice a l.length cap] w (IntP w (mEnergy f l)) := by
  have R1 := iVectorOk f a l cap w hn hs ht
  by_cases h : VecOk f l
  · rw [vok_iff.2 h] at R1
    have hml := mirL_len l
    have hpos := h.pos
    have HMR := Lib.hid (mirrored_c a l cap w hpos.1 hn hs)
    have HT : Hid (∀ (g : Nat) (w1 : World), Below w.heap.size w w1 → Own w1 g (mirL l).length (lf (mirL l)) → Calls Tryd.prog 32 #[.int .i64 f, .slice a l.length cap, .slice (some ⟨g, 0, none⟩) (mirL l).length (mirL l).length] w1 (IntP w1 (mEnergy f l))) := Lib.hid fun g w1 hb o1 => by
      have := iDot f a (some ⟨g, 0, none⟩) l.length (mirL l).length cap (mirL l).length (lf l) (lf (mirL l)) w1 (ht.below hb) (by omega) (by omega) (hs.keep hb) o1.src
      have e : mDot f (lf l) (lf (mirL l)) l.length (mirL l).length = mEnergy f l := by
        rw [mDot, if_pos ⟨h.f08, by omega, by omega⟩, hml, Nat.min_self, dot_sumP h.f08.1 h.f08.2]
        unfold mEnergy
        rw [if_pos h]
        congr 1
        unfold enF
        exact sumN_congr fun i hi => by rw [lf_mirL hi]
      rwa [e] at this
    have HR1 := Lib.hid R1
    clear R1 hs h hml
    generalize mirL l = ML at *
    go_enter Tryd.func34, Tryd.ntmps34
    go_wp2_with fail
    refine HR1.out.mono ?_
    rintro e w' ⟨rfl, rfl⟩
    go_wp2_with fail
    refine HMR.out.mono ?_
    rintro e w1 ⟨g, rfl, hg, o1, b1⟩
    have HO1 := Lib.hid o1
    clear o1
    go_wp2_with fail
    refine (HT.out g w1 b1 HO1.out).mono ?_
    rintro e w2 ⟨rfl, b2⟩
    have b3 := below_up b1 b2 b1.size
    clear HO1 HT HMR
    go_wp2
    go_ret
    exact ⟨rfl, b3⟩
  · rw [vok_not.2 h] at R1
    rw [show mEnergy f l = -1 by unfold mEnergy; rw [if_neg h]]
    have HR1 := Lib.hid R1
    clear R1 hs h
    go_enter Tryd.func34, Tryd.ntmps34
    go_wp2_with fail
    refine HR1.out.mono ?_
    rintro e w' ⟨rfl, rfl⟩
    go_wp2
    go_ret
    exact ⟨rfl, Below.refl _ _⟩
theorem iRotate (f : Int) (a : Option Addr) (l : List Int) (cap : Nat) (r : Int) (w : World) (hn : l.length ≤ 1048576) (hs : Src w a l.length (lf l)) (ht : Tab w) : Calls Tryd.prog 36 #[.int .i64 f, .slice a l.length cap, .int .i64 r] w (OwnL w (mRotate f l r)) := by
  have R1 := iVectorOk f a l cap w hn hs ht
  by_cases h : VecOk f l
  · rw [vok_iff.2 h] at R1
    rw [show mRotate f l r = rotL l r by unfold mRotate; rw [if_pos h]]
    have hpos := h.pos
    obtain ⟨b, off, rfl, hlt, hc⟩ := vec_some hs hpos.1
    have HRS : Hid (Calls Tryd.prog 75 #[.int .i64 r, .int .i64 l.length] w fun e w' => e = .returned (.int .i64 (turnN l.length r : Nat)) ∧ w = w') := Lib.hid (by
      have := residue_c r l.length w (by omega) (by omega)
      rwa [show RS r l.length = (turnN l.length r : Int) by unfold RS turnN; rw [Int.toNat_of_nonneg (Int.emod_nonneg _ (by omega))]] at this)
    have HT := Lib.hid (rotated_some b off l.length cap (turnN l.length r) (lf l) w hpos.1 hn (turn_lt hpos.1 r) hlt hc)
    have HLEN := Lib.hid (rotL_len l r)
    have HLF : Hid (∀ j, j < l.length → rotF l.length (turnN l.length r) (lf l) j = lf (rotL l r) j) := Lib.hid fun j hj => by unfold rotL; rw [lf_tab, if_pos hj]
    have HR1 := Lib.hid R1
    clear R1 hs h hc
    generalize turnN l.length r = c at *
    generalize rotF l.length c (lf l) = F at *
    go_enter Tryd.func36, Tryd.ntmps36
    go_wp2_with fail
    refine HR1.out.mono ?_
    rintro e w' ⟨rfl, rfl⟩
    go_wp2_with fail
    refine HRS.out.mono ?_
    rintro e w' ⟨rfl, rfl⟩
    go_wp2_with fail
    refine HT.out.mono ?_
    rintro e w1 ⟨rfl, o1, b1⟩
    have HR := Lib.hid (OwnG.of_own o1 HLEN.out.symm (Nat.le_refl _) HLF.out b1).own
    clear o1
    go_wp2
    go_ret
    exact HR.out
  · rw [vok_not.2 h] at R1
    rw [show mRotate f l r = [] by unfold mRotate; rw [if_neg h]]
    have HR1 := Lib.hid R1
    clear R1 hs h
    go_enter Tryd.func36, Tryd.ntmps36
    go_wp2_with fail
    refine HR1.out.mono ?_
    rintro e w' ⟨rfl, rfl⟩
    go_wp2
    go_ret
    exact ⟨none, 0, rfl, OwnA.nil rfl, Below.refl _ _⟩
set_option maxHeartbeats 800000 in
theorem iStage (f : Int) (a : Option Addr) (l : List Int) (cap : Nat) (s : Int) (w : World) (hn : l.length ≤ 1048576) (hs : Src w a l.length (lf l)) (ht : Tab w) : Calls Tryd.prog 30 #[.int .i64 f, .slice a l.length cap, .int .i64 s] w (OwnL w (mStage f l s)) := by
  have R1 := iVectorOk f a l cap w hn hs ht
  have hl9 := mLog_le l.length
  by_cases h : VecOk f l
  · rw [vok_iff.2 h] at R1
    have HL := Lib.hid (iLogOf l.length w)
    by_cases hs0 : s < 0
    · rw [show mStage f l s = [] by unfold mStage; rw [if_neg fun hk => by have := hk.2.1; omega]]
      have hd : decide (s < 0) = true := decide_eq_true hs0
      have HR1 := Lib.hid R1
      clear R1 hs h
      go_enter Tryd.func30, Tryd.ntmps30
      go_wp2_with fail
      refine HR1.out.mono ?_
      rintro e w' ⟨rfl, rfl⟩
      go_wp2
      go_ret
      exact ⟨none, 0, rfl, OwnA.nil rfl, Below.refl _ _⟩
    · have hd : decide (s < 0) = false := decide_eq_false hs0
      by_cases hs1 : mLog l.length ≤ s
      · rw [show mStage f l s = [] by unfold mStage; rw [if_neg fun hk => by have := hk.2.2; omega]]
        have hd1 : decide (mLog l.length ≤ s) = true := decide_eq_true hs1
        have HR1 := Lib.hid R1
        clear R1 hs h
        generalize mLog l.length = L at *
        go_enter Tryd.func30, Tryd.ntmps30
        go_wp2_with fail
        refine HR1.out.mono ?_
        rintro e w' ⟨rfl, rfl⟩
        go_wp2_with fail
        refine HL.out.mono ?_
        rintro e w' ⟨rfl, rfl⟩
        go_wp2
        go_ret
        exact ⟨none, 0, rfl, OwnA.nil rfl, Below.refl _ _⟩
      · have hd1 : decide (mLog l.length ≤ s) = false := decide_eq_false hs1
        have hk : okStage f l s := ⟨h, by omega, by omega⟩
        rw [show mStage f l s = stgL f l s.toNat by unfold mStage; rw [if_pos hk]]
        have HT : Hid (Calls Tryd.prog 63 #[.int .i64 f, .slice a l.length cap, .int .i64 s, .int .i64 (s + 1)] w (OwnG w (stgL f l s.toNat))) := Lib.hid (by
          have := levels_c f a l cap s.toNat 1 (s.toNat + 1) w ht h hs rfl (by omega)
          rw [show ((s.toNat : Nat) : Int) = s by omega, show ((s.toNat + 1 : Nat) : Int) = s + 1 by omega] at this
          exact this)
        have HR1 := Lib.hid R1
        have q1 : IntKind.i64.wrap (s + 1) = s + 1 := IntWalk.i64_in _ (by omega)
        clear R1 hs h hk
        generalize mLog l.length = L at *
        go_enter Tryd.func30, Tryd.ntmps30
        go_wp2_with fail
        refine HR1.out.mono ?_
        rintro e w' ⟨rfl, rfl⟩
        go_wp2_with fail
        refine HL.out.mono ?_
        rintro e w' ⟨rfl, rfl⟩
        go_wp2_with fail
        refine HT.out.mono ?_
        rintro e w1 h1
        have HR := Lib.hid h1.own
        obtain ⟨g, rfl, _⟩ := h1
        go_wp2
        go_ret
        exact HR.out
  · rw [vok_not.2 h] at R1
    rw [show mStage f l s = [] by unfold mStage; rw [if_neg fun hk => h hk.1]]
    have HR1 := Lib.hid R1
    clear R1 hs h
    go_enter Tryd.func30, Tryd.ntmps30
    go_wp2_with fail
    refine HR1.out.mono ?_
    rintro e w' ⟨rfl, rfl⟩
    go_wp2
    go_ret
    exact ⟨none, 0, rfl, OwnA.nil rfl, Below.refl _ _⟩
end Go.Proofs.YtnipffmookkkdabDoor
namespace Go.Proofs
open Go.Shelf
def Tryd.lays125_ren : Go.Shelf.Ren := ⟨fun | 125 => 48 | 128 => 84 | 129 => 85 | n => n, fun | 46 => 47 | 3 => 3 | 51 => 64 | 53 => 66 | 4 => 4 | 5 => 5 | 9 => 9 | n => n, fun | n => n⟩
theorem Tryd.lays125 : Go.Proofs.Lays.n125 Tryd.prog Tryd.lays125_ren := {
  mixed := by kernel_rfl
  f125 := Tryd.func48.trans (congrArg some (by kernel_rfl))
  f128 := Tryd.func84.trans (congrArg some (by kernel_rfl))
  f129 := Tryd.func85.trans (congrArg some (by kernel_rfl))
  t3 := Tryd.underlying3
  a3 := Tryd.isAgg3
  z3 := Tryd.sizeOf3
  v3 := Tryd.zeroValue3
  t4 := Tryd.underlying4
  a4 := Tryd.isAgg4
  z4 := Tryd.sizeOf4
  v4 := Tryd.zeroValue4
  t5 := Tryd.underlying5
  a5 := Tryd.isAgg5
  z5 := Tryd.sizeOf5
  v5 := Tryd.zeroValue5
  t9 := Tryd.underlying9
  a9 := Tryd.isAgg9
  z9 := Tryd.sizeOf9
  v9 := Tryd.zeroValue9
  t46 := Tryd.underlying47
  a46 := Tryd.isAgg47
  z46 := Tryd.sizeOf47
  v46 := Tryd.zeroValue47
  t51 := Tryd.underlying64
  a51 := Tryd.isAgg64
  z51 := Tryd.sizeOf64
  v51 := Tryd.zeroValue64
  t53 := Tryd.underlying66
  a53 := Tryd.isAgg66
  z53 := Tryd.sizeOf66
  v53 := Tryd.zeroValue66 }
/-- bits.Len: "Len returns the minimum number of bits required to represent x; the result is 0 for x == 0.": IT RETURNS 'Lib.bitLen x'; the world is as it was. (A uint has 64 bits in the model.) ITS CALLEE bits.Len64 IS MET BY ITS OWN CONTRACT OFF THE SHELF (lay that first). (LAID: no walk: one application.) -/
theorem Tryd.bits_Len (x : Int) (w : World) (h0 : 0 ≤ x) (h1 : x ≤ 18446744073709551615) :
    Calls Tryd.prog 48 #[.int .u64 x] w fun e w' => e = .returned (.int .i64 (Lib.bitLen x.toNat)) ∧ w' = w := Any.bits_Len Tryd.lays125 x w h0 h1
end Go.Proofs
namespace Go.Proofs.YtnipffmookkkdabDoor
open Go.RowKit
theorem wpList_copy_pad {w : World} {ops : Array Oper} {rest : List Oper} {o : Oper} {a : Act} {Q : Exit → Act → World → Prop} (hgd : o.guard = none) (d s : Operand)
    (ho : o.op = .call { callee := .builtin .copy, args := #[d, s], argTypes := #[22, 22] }) (N m cap1 cap2 : Nat) (a2 : Option Addr) (F : Nat → Int)
    (hd : a.eval d = .slice (some ⟨w.heap.size, 0, none⟩) N cap1) (hs : a.eval s = .slice a2 m cap2) (hmN : m ≤ N) (hsrc : Src w a2 m F)
    (h : ∀ w', Hid (Own w' w.heap.size N (fun j => if 0 ≤ j ∧ j < 0 + m then F (j - 0) else 0)) → Below w.heap.size w w' → wpList Tryd.prog ops Q rest (a.put o.dst (goInt m)) w') :
    wpList Tryd.prog ops Q (o :: rest) a (w.alloc (.cells (madeCells #[.int .i64 0] N) 3)) := by
  refine wpList_copy_splice hgd d s 22 22 ho 3 Tryd.underlying22 size3 (some ⟨w.heap.size, 0, none⟩) a2 N cap1 m cap2 hd hs w.heap.size 0 (madeCells #[.int .i64 0] N).toList 3 (by unfold World.alloc; simp) (xsF F m) (by rw [xsF_len]; exact (Nat.min_eq_left hmN).symm) ?_ (by rw [xsF_len, made_len]; omega) xsF_one w.heap.size w ((Below.refl _ _).alloc (Nat.le_refl _) _) (Nat.le_refl _) (fun w' hg hb => ?_)
  · intro hpos
    rw [xsF_len] at hpos
    refine ⟨rfl, ?_⟩
    rcases hsrc with hz | ⟨b, off2, rfl, hlt, hc⟩
    · omega
    · refine ⟨_, rfl, fun j v hv => ?_⟩
      obtain ⟨hj, rfl⟩ := xsF_at hv
      rw [add_at]
      exact (((Below.refl _ w).alloc (Nat.le_refl _) _).cell (p := ⟨b, off2 + j, none⟩) hlt).trans (hc j (by omega))
  · rw [xsF_len]
    exact h w' (Lib.hid (own_splice (by omega) hg.out)) hb
theorem padded_c (a : Option Addr) (l : List Int) (cap N : Nat) (w : World) (hl : l.length ≤ N) (hN : N ≤ 1048576) (hs : Src w a l.length (lf l)) : Calls Tryd.prog 51 #[.slice a l.length cap, .int .i64 N] w (OwnG w (padL l N)) := by
  have hmk := made_n N hN
  have HS := Lib.hid hs
  have HO : Hid (∀ w', Own w' w.heap.size N (fun j => if j < l.length then lf l j else 0) → Below w.heap.size w w' → OwnG w (padL l N) (.returned (.slice (some ⟨w.heap.size, 0, none⟩) N N)) w') := Lib.hid fun w' ho hb => OwnG.of_own ho (padL_len l N).symm (Nat.le_refl _) (fun j hj => by
    unfold padL
    rw [lf_tab, if_pos hj]
    by_cases hjl : j < l.length
    · rw [if_pos hjl]
    · rw [if_neg hjl, lf_out l (by omega)]) hb
  clear hs
  go_enter Tryd.func51, Tryd.ntmps51
  go_wp2_with (with_reducible refine wpList_copy_pad rfl _ _ rfl N l.length N cap _ (lf l) rfl rfl hl HS.out ?_)
  intro w2 H2 hb
  have HR := Lib.hid (HO.out w2 H2.out hb)
  clear hmk H2 HO
  go_wp2
  go_ret
  exact HR.out
/-- How many bits the places of a product take. -/
theorem len_facts {c : Nat} (hc : 0 < c) (hc4 : c ≤ 400) : c ≤ 2 ^ Lib.bitLen (c - 1) ∧ Lib.bitLen (c - 1) ≤ 9 ∧ ∀ t, t < Lib.bitLen (c - 1) → 2 ^ t < c := by
  have h1 : c - 1 < 2 ^ Lib.bitLen (c - 1) := by
    by_cases hz : c - 1 = 0
    · rw [hz]; decide
    · exact (Lib.bitLenAux_bounds 64 (c - 1) (by omega) hz).2.2
  have h2 : c - 1 ≠ 0 → 2 ^ (Lib.bitLen (c - 1) - 1) ≤ c - 1 := fun hz => (Lib.bitLenAux_bounds 64 (c - 1) (by omega) hz).2.1
  have h9 : Lib.bitLen (c - 1) ≤ 9 := by
    by_cases hz : c - 1 = 0
    · rw [hz]; decide
    · have h3 := h2 hz
      refine Classical.byContradiction fun hn => ?_
      have : 2 ^ 9 ≤ 2 ^ (Lib.bitLen (c - 1) - 1) := Nat.pow_le_pow_right (by omega) (by omega)
      omega
  refine ⟨by omega, h9, fun t ht => ?_⟩
  have hz : c - 1 ≠ 0 := fun e => by rw [e] at ht; exact absurd ht (Nat.not_lt_zero _)
  have h3 := h2 hz
  have : 2 ^ t ≤ 2 ^ (Lib.bitLen (c - 1) - 1) := Nat.pow_le_pow_right (by omega) (by omega)
  omega
theorem iConvPoly_off (f : Int) (a : Option Addr) (l : List Int) (cap : Nat) (a2 : Option Addr) (m : List Int) (cap2 : Nat) (w : World) (hn : l.length ≤ 1048576) (hn2 : m.length ≤ 1048576) (hs : Src w a l.length (lf l)) (hs2 : Src w a2 m.length (lf m)) (ht : Tab w) (hp : (mPolyOk f l && mPolyOk f m) = false) : Calls Tryd.prog 12 #[.int .i64 f, .slice a l.length cap, .slice a2 m.length cap2] w (OwnLB w [] false) := by
  have HP : Hid (∀ o, Calls Tryd.prog 46 #[.int .i64 f, .slice (some ⟨w.heap.size, 0, none⟩) 2 2] (w.alloc (.cells #[.slice a l.length cap, .slice a2 m.length cap2] o)) (SameB (w.alloc (.cells #[.slice a l.length cap, .slice a2 m.length cap2] o)) false)) := Lib.hid fun o => by
    have hb := (Below.refl w.heap.size w).alloc (Nat.le_refl _) (.cells #[.slice a l.length cap, .slice a2 m.length cap2] o)
    have hc := cell_two w (.slice a l.length cap) (.slice a2 m.length cap2) o
    have := arePolys_c f w.heap.size a a2 l m cap cap2 _ hn hn2 (hs.keep hb) (hs2.keep hb) (ht.below hb) hc.1 hc.2
    rwa [hp] at this
  have HB : Hid (∀ o, Below w.heap.size w (w.alloc o)) := Lib.hid fun o => (Below.refl _ _).alloc (Nat.le_refl _) o
  clear hs hs2 hp
  go_enter Tryd.func12, Tryd.ntmps12
  go_wp2_with fail
  refine (HP.out _).mono ?_
  rintro e w' ⟨rfl, rfl⟩
  go_wp2
  go_ret2
  exact ⟨none, 0, rfl, OwnA.nil rfl, HB.out _⟩
theorem iConvPoly_nil (f : Int) (a : Option Addr) (l : List Int) (cap : Nat) (a2 : Option Addr) (m : List Int) (cap2 : Nat) (w : World) (hn : l.length ≤ 1048576) (hn2 : m.length ≤ 1048576) (hs : Src w a l.length (lf l)) (hs2 : Src w a2 m.length (lf m)) (ht : Tab w) (hp : (mPolyOk f l && mPolyOk f m) = true) (hz : l.length = 0 ∨ m.length = 0) : Calls Tryd.prog 12 #[.int .i64 f, .slice a l.length cap, .slice a2 m.length cap2] w (OwnLB w [] true) := by
  have HP : Hid (∀ o, Calls Tryd.prog 46 #[.int .i64 f, .slice (some ⟨w.heap.size, 0, none⟩) 2 2] (w.alloc (.cells #[.slice a l.length cap, .slice a2 m.length cap2] o)) (SameB (w.alloc (.cells #[.slice a l.length cap, .slice a2 m.length cap2] o)) true)) := Lib.hid fun o => by
    have hb := (Below.refl w.heap.size w).alloc (Nat.le_refl _) (.cells #[.slice a l.length cap, .slice a2 m.length cap2] o)
    have hc := cell_two w (.slice a l.length cap) (.slice a2 m.length cap2) o
    have := arePolys_c f w.heap.size a a2 l m cap cap2 _ hn hn2 (hs.keep hb) (hs2.keep hb) (ht.below hb) hc.1 hc.2
    rwa [hp] at this
  have HB : Hid (∀ o, Below w.heap.size w (w.alloc o)) := Lib.hid fun o => (Below.refl _ _).alloc (Nat.le_refl _) o
  have HN : Hid (∀ w1, Below w.heap.size w w1 → Calls Tryd.prog 47 #[.slice none 0 0] w1 (fun e w2 => ∃ g, e = .returned (.slice (some ⟨g, 0, none⟩) 0 0) ∧ OwnLB w [] true (.returned (.tuple #[.slice (some ⟨g, 0, none⟩) 0 0, .bool true])) w2)) := Lib.hid fun w1 hb => by
    refine (poly_none none 0 (fun _ => 0) w1).mono ?_
    intro e w2 h2
    obtain ⟨g, rfl, hg, ho, hb2⟩ := h2
    have e0 : (cutL 0 fun _ => (0 : Int)) = [] := rfl
    rw [e0] at ho
    refine ⟨g, rfl, some ⟨g, 0, none⟩, 0, rfl, .inr ⟨g, rfl, rfl, Nat.le_trans hb.size hg, ho⟩, below_up hb hb2 hb.size⟩
  have HZ : Hid (∃ x y : Bool, ((l.length : Int) == 0) = x ∧ ((m.length : Int) == 0) = y ∧ (x || y) = true) := Lib.hid (by
    refine ⟨_, _, rfl, rfl, ?_⟩
    rcases hz with h | h
    · rw [h]; rfl
    · rw [h]; simp)
  clear hs hs2 hp hz
  obtain ⟨x, y, hx, hy, hxy⟩ := HZ.out
  clear HZ
  cases x
  · obtain rfl : y = true := by simpa using hxy
    clear hxy
    go_enter Tryd.func12, Tryd.ntmps12
    go_wp2_with fail
    refine (HP.out _).mono ?_
    rintro e w' ⟨rfl, rfl⟩
    go_wp2_with fail
    refine (HN.out _ (HB.out _)).mono ?_
    rintro e w2 ⟨g, rfl, h2⟩
    have HR := Lib.hid h2
    clear h2
    go_wp2
    go_ret2
    exact HR.out
  · clear hxy hy
    go_enter Tryd.func12, Tryd.ntmps12
    go_wp2_with fail
    refine (HP.out _).mono ?_
    rintro e w' ⟨rfl, rfl⟩
    go_wp2_with fail
    refine (HN.out _ (HB.out _)).mono ?_
    rintro e w2 ⟨g, rfl, h2⟩
    have HR := Lib.hid h2
    clear h2
    go_wp2
    go_ret2
    exact HR.out
set_option maxRecDepth 100000 in
set_option maxHeartbeats 1600000 in
theorem iConvPoly_far (f : Int) (a : Option Addr) (l : List Int) (cap : Nat) (a2 : Option Addr) (m : List Int) (cap2 c : Nat) (w : World) (hn : l.length ≤ 400) (hn2 : m.length ≤ 400) (hs : Src w a l.length (lf l)) (hs2 : Src w a2 m.length (lf m)) (ht : Tab w) (hp : (mPolyOk f l && mPolyOk f m) = true) (hl : l.length ≠ 0) (hm : m.length ≠ 0) (hc : l.length + m.length = c + 1)
    (hno : 400 < c ∨ ¬ hasK f (Lib.bitLen (c - 1))) : Calls Tryd.prog 12 #[.int .i64 f, .slice a l.length cap, .slice a2 m.length cap2] w (OwnLB w [] false) := by
  have HP : Hid (∀ o, Calls Tryd.prog 46 #[.int .i64 f, .slice (some ⟨w.heap.size, 0, none⟩) 2 2] (w.alloc (.cells #[.slice a l.length cap, .slice a2 m.length cap2] o)) (SameB (w.alloc (.cells #[.slice a l.length cap, .slice a2 m.length cap2] o)) true)) := Lib.hid fun o => by
    have hb := (Below.refl w.heap.size w).alloc (Nat.le_refl _) (.cells #[.slice a l.length cap, .slice a2 m.length cap2] o)
    have hc := cell_two w (.slice a l.length cap) (.slice a2 m.length cap2) o
    have := arePolys_c f w.heap.size a a2 l m cap cap2 _ (by omega) (by omega) (hs.keep hb) (hs2.keep hb) (ht.below hb) hc.1 hc.2
    rwa [hp] at this
  have HB : Hid (∀ o, Below w.heap.size w (w.alloc o)) := Lib.hid fun o => (Below.refl _ _).alloc (Nat.le_refl _) o
  have z1 : ((l.length : Int) == 0) = false := by rw [beq_eq_false_iff_ne]; omega
  have z2 : ((m.length : Int) == 0) = false := by rw [beq_eq_false_iff_ne]; omega
  have u1 : (l.length : Int) + m.length - 1 - 1 = ((c - 1 : Nat) : Int) := by omega
  have q3 : IntKind.u64.wrap ((l.length : Int) + m.length - 1 - 1) = (l.length : Int) + m.length - 1 - 1 := IntWalk.u64_in _ (by omega)
  have HBL : Hid (∀ w, Calls Tryd.prog 48 #[.int .u64 ((l.length : Int) + m.length - 1 - 1)] w fun e w' => e = .returned (.int .i64 (Lib.bitLen (c - 1) : Nat)) ∧ w' = w) := Lib.hid fun w => by
    have := Tryd.bits_Len ((l.length : Int) + m.length - 1 - 1) w (by omega) (by omega)
    rwa [u1, Int.toNat_natCast, ← u1] at this
  have HF : Hid (∃ x : Bool, decide ((400 : Int) < (l.length : Int) + m.length - 1) = x ∧ (x = false → ¬ hasK f (Lib.bitLen (c - 1)))) := Lib.hid (by
    by_cases h : 400 < c
    · exact ⟨true, decide_eq_true (by omega), fun e => by cases e⟩
    · exact ⟨false, decide_eq_false (by omega), fun _ => hno.resolve_left h⟩)
  have q1 : IntKind.i64.wrap ((l.length : Int) + m.length) = (l.length : Int) + m.length := IntWalk.i64_in _ (by omega)
  have q2 : IntKind.i64.wrap ((l.length : Int) + m.length - 1) = (l.length : Int) + m.length - 1 := IntWalk.i64_in _ (by omega)
  have q4 : IntKind.i64.wrap ((l.length : Int) + m.length - 1 - 1) = (l.length : Int) + m.length - 1 - 1 := IntWalk.i64_in _ (by omega)
  clear hs hs2 hp hno u1
  obtain ⟨x, hx, hno⟩ := HF.out
  have HNO := Lib.hid hno
  clear HF hno
  generalize Lib.bitLen (c - 1) = k at *
  cases x
  · have HR := Lib.hid fun (w1 : World) (hb : Below w.heap.size w w1) => hasRoots_no f k w1 (ht.below hb) (fun h => HNO.out rfl h.1)
    go_enter Tryd.func12, Tryd.ntmps12
    go_wp2_with fail
    refine (HP.out _).mono ?_
    rintro e w' ⟨rfl, rfl⟩
    go_wp2_with fail
    refine (HBL.out _).mono ?_
    rintro e w' ⟨rfl, rfl⟩
    go_wp2_with fail
    refine (HR.out _ (HB.out _)).mono ?_
    rintro e w' ⟨rfl, rfl⟩
    go_wp2
    go_ret2
    exact ⟨none, 0, rfl, OwnA.nil rfl, HB.out _⟩
  · go_enter Tryd.func12, Tryd.ntmps12
    go_wp2_with fail
    refine (HP.out _).mono ?_
    rintro e w' ⟨rfl, rfl⟩
    go_wp2_with fail
    refine (HBL.out _).mono ?_
    rintro e w' ⟨rfl, rfl⟩
    go_wp2
    go_ret2
    exact ⟨none, 0, rfl, OwnA.nil rfl, HB.out _⟩
set_option maxRecDepth 100000 in
set_option maxHeartbeats 3200000 in
theorem iConvPoly_on (f : Int) (a : Option Addr) (l : List Int) (cap : Nat) (a2 : Option Addr) (m : List Int) (cap2 c k N : Nat) (w : World) (hn : l.length ≤ 400) (hn2 : m.length ≤ 400) (hs : Src w a l.length (lf l)) (hs2 : Src w a2 m.length (lf m)) (ht : Tab w) (pl : PolOk f l) (pm : PolOk f m) (hl : l.length ≠ 0) (hm : m.length ≠ 0) (hc : l.length + m.length = c + 1)
    (hc4 : c ≤ 400) (hk : Lib.bitLen (c - 1) = k) (k9 : k ≤ 9) (hh : hasK f k) (hN : N = 2 ^ k) (hcN : c ≤ N) : Calls Tryd.prog 12 #[.int .i64 f, .slice a l.length cap, .slice a2 m.length cap2] w (OwnLB w (mulL f l m) true) := by
  have hp : (mPolyOk f l && mPolyOk f m) = true := by rw [pok_iff.2 pl, pok_iff.2 pm]; rfl
  have HP : Hid (∀ o, Calls Tryd.prog 46 #[.int .i64 f, .slice (some ⟨w.heap.size, 0, none⟩) 2 2] (w.alloc (.cells #[.slice a l.length cap, .slice a2 m.length cap2] o)) fun e w' => e = .returned (.bool true) ∧ Below w.heap.size w w') := Lib.hid fun o => by
    have hb := (Below.refl w.heap.size w).alloc (Nat.le_refl _) (.cells #[.slice a l.length cap, .slice a2 m.length cap2] o)
    have hc := cell_two w (.slice a l.length cap) (.slice a2 m.length cap2) o
    have := arePolys_c f w.heap.size a a2 l m cap cap2 _ (by omega) (by omega) (hs.keep hb) (hs2.keep hb) (ht.below hb) hc.1 hc.2
    rw [hp] at this
    refine this.mono ?_
    rintro e w' ⟨rfl, rfl⟩
    exact ⟨rfl, hb⟩
  have n9 : N ≤ 512 := by
    have : 2 ^ k ≤ 2 ^ 9 := Nat.pow_le_pow_right (by omega) k9
    omega
  have hE : wrap64 (2 ^ k) = (N : Int) := by
    rw [shl_nat (by omega)]; unfold two; rw [Int.toNat_natCast, hN, Int.natCast_pow]; rfl
  have hE2 : IntKind.i64.wrap (2 ^ k) = (N : Int) := by
    have := hE
    unfold wrap64 at this
    rw [IntKind.wrap_i64]
    exact this
  have z1 : ((l.length : Int) == 0) = false := by rw [beq_eq_false_iff_ne]; omega
  have z2 : ((m.length : Int) == 0) = false := by rw [beq_eq_false_iff_ne]; omega
  have u1 : (l.length : Int) + m.length - 1 - 1 = ((c - 1 : Nat) : Int) := by omega
  have HBL : Hid (∀ w, Calls Tryd.prog 48 #[.int .u64 ((l.length : Int) + m.length - 1 - 1)] w fun e w' => e = .returned (.int .i64 (k : Nat)) ∧ w = w') := Lib.hid fun w => by
    have := Tryd.bits_Len ((l.length : Int) + m.length - 1 - 1) w (by omega) (by omega)
    rw [u1, Int.toNat_natCast, ← u1, hk] at this
    exact this.mono fun _ _ h => ⟨h.1, h.2.symm⟩
  have hx : decide ((400 : Int) < (l.length : Int) + m.length - 1) = false := decide_eq_false (by omega)
  have q1 : IntKind.i64.wrap ((l.length : Int) + m.length) = (l.length : Int) + m.length := IntWalk.i64_in _ (by omega)
  have q2 : IntKind.i64.wrap ((l.length : Int) + m.length - 1) = (l.length : Int) + m.length - 1 := IntWalk.i64_in _ (by omega)
  have q3 : IntKind.u64.wrap ((l.length : Int) + m.length - 1 - 1) = (l.length : Int) + m.length - 1 - 1 := IntWalk.u64_in _ (by omega)
  have q4 : IntKind.i64.wrap ((l.length : Int) + m.length - 1 - 1) = (l.length : Int) + m.length - 1 - 1 := IntWalk.i64_in _ (by omega)
  have HR := Lib.hid fun (w1 : World) (hb : Below w.heap.size w w1) => hasRoots_yes f k w1 (ht.below hb) hh (by omega)
  have HPA : Hid (∀ (x : Int) W, Below w.heap.size w W → x = N → Calls Tryd.prog 51 #[.slice a l.length cap, .int .i64 x] W (OwnG W (padL l N))) := Lib.hid fun x W hb hx => by
    rw [hx]; exact padded_c a l cap N W (by omega) (by omega) (hs.keep hb)
  have HPB : Hid (∀ (x : Int) W, Below w.heap.size w W → x = N → Calls Tryd.prog 51 #[.slice a2 m.length cap2, .int .i64 x] W (OwnG W (padL m N))) := Lib.hid fun x W hb hx => by
    rw [hx]; exact padded_c a2 m cap2 N W (by omega) (by omega) (hs2.keep hb)
  have h2 : TwoOk f (padL l N) (padL m N) := ⟨by rw [padL_len, padL_len], by rw [hN]; exact pad_ok pl hh k9, by rw [hN]; exact pad_ok pm hh k9⟩
  have HCY : Hid (∀ (g1 g2 : Nat) (W : World), Below w.heap.size w W → Own W g1 (padL l N).length (lf (padL l N)) → Own W g2 (padL m N).length (lf (padL m N)) → Calls Tryd.prog 50 #[.int .i64 f, .slice (some ⟨g1, 0, none⟩) (padL l N).length (padL l N).length, .slice (some ⟨g2, 0, none⟩) (padL m N).length (padL m N).length] W (OwnG W (cycL f (padL l N) (padL m N)))) := Lib.hid fun g1 g2 W hb o1 o2 => cyclic_c f _ _ _ _ _ _ W (ht.below hb) h2 o1.src o2.src
  have hcl : (cycL f (padL l N) (padL m N)).length = N := by unfold cycL; rw [tab_len, padL_len]
  have HPO : Hid (∀ (g : Nat) (W : World), Own W g (cycL f (padL l N) (padL m N)).length (lf (cycL f (padL l N) (padL m N))) → Calls Tryd.prog 47 #[.slice (some ⟨g, 0, none⟩) (cycL f (padL l N) (padL m N)).length (cycL f (padL l N) (padL m N)).length] W (OwnG W (mulL f l m))) := Lib.hid fun g W o1 => by
    have := poly_c (some ⟨g, 0, none⟩) (cycL f (padL l N) (padL m N)).length (cycL f (padL l N) (padL m N)).length (lf (cycL f (padL l N) (padL m N))) W (by omega) o1.src
    rw [hcl, conv_cut pl (by omega) (by omega) (by omega)] at this
    rw [hcl]
    exact this
  have HE2 := Lib.hid hE2
  clear hs hs2 hp u1 h2 hcl hE hE2 hk hh hN hcN n9 pl pm
  generalize cycL f (padL l N) (padL m N) = CY at *
  generalize padL l N = PL at *
  generalize padL m N = PM at *
  generalize mulL f l m = ML at *
  go_enter Tryd.func12, Tryd.ntmps12
  go_wp2_with fail
  refine (HP.out _).mono ?_
  rintro e W0 ⟨rfl, b0⟩
  go_wp2_with fail
  refine (HBL.out _).mono ?_
  rintro e w' ⟨rfl, rfl⟩
  go_wp2_with fail
  refine (HR.out _ b0).mono ?_
  rintro e w' ⟨rfl, rfl⟩
  have b00 : Below w.heap.size w W0.drew := ⟨b0.os, b0.tape, b0.output, b0.size, b0.block⟩
  have tok1 : Hid True := Lib.hid trivial
  clear HP HBL HR b0
  go_wp2_with fail
  go_region_held3 (fun _ => True) (first | trivial | go_keep)
    (first
      | (go_at_call 51; clear tok1; refine (HPA.out _ _ b00 HE2.out).mono ?_; rintro e w1 ⟨g1, rfl, hg1, o1, b1⟩; have b2 := below_up b00 b1 b00.size)
      | (go_at_call 51; refine (HPB.out _ _ b2 HE2.out).mono ?_; rintro e w2 ⟨g2, rfl, hg2, o2, b3⟩; have b4 := below_up b2 b3 b2.size; have o3 := o1.keep b3)
      | (go_at_call 50; refine (HCY.out g1 g2 _ b4 o3 o2).mono ?_; rintro e w3 ⟨g3, rfl, hg3, o4, b5⟩; have b6 := below_up b4 b5 b4.size)
      | (go_at_call 47; refine (HPO.out g3 _ o4).mono ?_; intro e w4 h4; have HF := Lib.hid (h4.up b6).own; obtain ⟨g4, rfl, _⟩ := h4))
  go_wp2
  go_ret2
  obtain ⟨aa, cc, e1, oo, bb⟩ := HF.out
  cases e1
  exact ⟨_, _, rfl, oo, bb⟩
theorem iConvPoly (f : Int) (a : Option Addr) (l : List Int) (cap : Nat) (a2 : Option Addr) (m : List Int) (cap2 : Nat) (w : World) (hn : l.length ≤ 1048576) (hn2 : m.length ≤ 1048576) (hs : Src w a l.length (lf l)) (hs2 : Src w a2 m.length (lf m)) (ht : Tab w) : Calls Tryd.prog 12 #[.int .i64 f, .slice a l.length cap, .slice a2 m.length cap2] w (OwnLB w (mConvPoly0 f l m) (mConvPoly1 f l m)) := by
  have off : ¬ okConv f l m → mConvPoly0 f l m = [] ∧ mConvPoly1 f l m = false := fun h => ⟨by unfold mConvPoly0; rw [if_neg h], by unfold mConvPoly1; simp [h]⟩
  have on : okConv f l m → mConvPoly0 f l m = mulL f l m ∧ mConvPoly1 f l m = true := fun h => ⟨by unfold mConvPoly0; rw [if_pos h], by unfold mConvPoly1; simp [h]⟩
  by_cases pl : PolOk f l
  · by_cases pm : PolOk f m
    · have hp : (mPolyOk f l && mPolyOk f m) = true := by rw [pok_iff.2 pl, pok_iff.2 pm]; rfl
      have hl4 := pl.2.1
      have hm4 := pm.2.1
      have h2p : ∀ t : Nat, ((2 ^ t : Nat) : Int) = 2 ^ t := fun t => by rw [Int.natCast_pow]; rfl
      by_cases hz : l.length = 0 ∨ m.length = 0
      · have e : mulL f l m = [] := by
          rcases hz with h | h
          · rw [List.eq_nil_of_length_eq_zero h, mulL_nil_l]
          · rw [List.eq_nil_of_length_eq_zero h, mulL_nil_r]
        have hok : okConv f l m := ⟨⟨pl, pm, by omega⟩, by rw [e]; exact Int.le_of_lt (Int.pow_pos (by omega))⟩
        rw [(on hok).1, (on hok).2, e]
        exact iConvPoly_nil f a l cap a2 m cap2 w hn hn2 hs hs2 ht hp hz
      · obtain ⟨c, hc⟩ : ∃ c, l.length + m.length = c + 1 := ⟨l.length + m.length - 1, by omega⟩
        have hlen : (mulL f l m).length = c := by rw [mulL_len pl.1.1 pl.1.2 pl.2.2 pm.2.2 (by omega) (by omega)]; omega
        by_cases hc4 : c ≤ 400
        · obtain ⟨k1, k9, k3⟩ := len_facts (c := c) (by omega) hc4
          obtain ⟨t, ht2⟩ : ∃ t : Nat, T f = (t : Int) := ⟨(T f).toNat, by have := T_bd pl.1.1 pl.1.2; omega⟩
          by_cases hh : hasK f (Lib.bitLen (c - 1))
          · have hkt : Lib.bitLen (c - 1) ≤ t := by have := hh.2.2; omega
            have hok : okConv f l m := ⟨⟨pl, pm, by omega⟩, by
              rw [hlen]
              have : 2 ^ Lib.bitLen (c - 1) ≤ 2 ^ (min 9 (T f)).toNat := Nat.pow_le_pow_right (by omega) (by omega)
              have := h2p (min 9 (T f)).toNat
              omega⟩
            rw [(on hok).1, (on hok).2]
            exact iConvPoly_on f a l cap a2 m cap2 c (Lib.bitLen (c - 1)) (2 ^ Lib.bitLen (c - 1)) w hl4 hm4 hs hs2 ht pl pm (by omega) (by omega) hc hc4 rfl k9 hh rfl k1
          · have hkt : t < Lib.bitLen (c - 1) := Classical.byContradiction fun h => hh ((hasK_iff f _).2 ⟨by omega, by omega⟩)
            have hno : ¬ okConv f l m := fun h => by
              have h2 := h.2
              rw [hlen, show (min 9 (T f)).toNat = t by omega, ← h2p t] at h2
              have := k3 t hkt
              omega
            rw [(off hno).1, (off hno).2]
            exact iConvPoly_far f a l cap a2 m cap2 c w hl4 hm4 hs hs2 ht hp (by omega) (by omega) hc (.inr hh)
        · have hno : ¬ okConv f l m := fun h => by have := h.1.2.2; omega
          rw [(off hno).1, (off hno).2]
          exact iConvPoly_far f a l cap a2 m cap2 c w hl4 hm4 hs hs2 ht hp (by omega) (by omega) hc (.inl (by omega))
    · have hno : ¬ okConv f l m := fun h => pm h.1.2.1
      rw [(off hno).1, (off hno).2]
      exact iConvPoly_off f a l cap a2 m cap2 w hn hn2 hs hs2 ht (by rw [pok_not.2 pm, Bool.and_false])
  · have hno : ¬ okConv f l m := fun h => pl h.1.1
    rw [(off hno).1, (off hno).2]
    exact iConvPoly_off f a l cap a2 m cap2 w hn hn2 hs hs2 ht (by rw [pok_not.2 pl, Bool.false_and])
end Go.Proofs.YtnipffmookkkdabDoor
namespace Go.Proofs.YtnipffmookkkdabDoor
open Go.RowKit
theorem OwnV.grown {g : Nat} {w w' : World} {g2 n cap : Nat} {F : Nat → Int} (h : OwnV w g2 n cap F) (hg : w.grownBy w' (some g)) (hne : g2 ≠ g) : OwnV w' g2 n cap F := by
  obtain ⟨V, h1, h2, h3⟩ := h
  have hlt := OwnV.lt ⟨V, h1, h2, h3⟩
  exact ⟨V, World.rowIs.of_block h1 (hg.block g2 hlt (fun e => by injection e with e; exact hne e)), h2, h3⟩
/-- A drawn list, whose row may still be written. -/
def ZVal (g : Nat) (w : World) (n : Nat) (v : Value) (w' : World) : Prop := ∃ l : List Int, l.length ≤ n ∧ (∃ B, g < B ∧ w.heap.size ≤ B ∧ w'.ownsRow B 3 1 v l.length (xsF (lf l) l.length)) ∧ Cur g w' ∧ w.grownBy w' (some g)
theorem ZVal.of {g : Nat} {w w' : World} {n : Nat} {v : Value} (hB : g < w.heap.size) (h : ZAt g w w' v n) : ZVal g w n v w' := by
  obtain ⟨⟨F, ho⟩, hc, hg, hs⟩ := h
  exact ⟨tab n F, by rw [tab_len]; exact Nat.le_refl _, ⟨w.heap.size, hB, Nat.le_refl _, owns_to_tab ho⟩, hc, hg⟩
theorem ZVal.grown {g : Nat} {w w1 w2 : World} {n : Nat} {v : Value} (h : ZVal g w n v w1) (hg : w1.grownBy w2 (some g)) (hc : Cur g w2) : ZVal g w n v w2 := by
  obtain ⟨l, hl, ⟨B, hB, hB2, ho⟩, _, hg1⟩ := h
  exact ⟨l, hl, ⟨B, hB, hB2, ho.kept hg (zown_ne hB ho)⟩, hc, hg1.trans hg⟩
theorem ZVal.cut {g : Nat} {w w1 : World} {n : Nat} {v : Value} (h : ZVal g w n v w1) (hn : n ≤ 4096) : Calls Tryd.prog 79 #[v] w1 fun e w2 => ∃ v2, e = .returned v2 ∧ ZVal g w n v2 w2 := by
  obtain ⟨l, hl, ⟨B, hB, hB2, ho⟩, hc, hg⟩ := h
  refine (cut_own (by omega) ho).mono ?_
  rintro e w2 ⟨v2, rfl, ho2, hb⟩
  have hle := cutL_le l.length (lf l)
  exact ⟨v2, rfl, cutL l.length (lf l), by omega, ⟨w1.heap.size, by have := hc.lt; omega, hg.size, ho2⟩, hc.below hb, hg.trans (grown_of_below g hb)⟩
theorem ZVal.pol {g : Nat} {w w1 : World} {n : Nat} {v : Value} (h : ZVal g w n v w1) : ZPol g w n (.returned v) w1 := by
  obtain ⟨l, hl, ⟨B, hB, hB2, ho⟩, hc, hg⟩ := h
  obtain ⟨a, cap, rfl, hcap, hs⟩ := SrcO.of ho hB
  exact ⟨l, a, cap, rfl, hl, hcap, hs, hc, hg⟩
/-- The value is a slice: empty, or a row that can be written. -/
theorem ZVal.cases {g : Nat} {w w1 : World} {n : Nat} {v : Value} (h : ZVal g w n v w1) : ∃ (l : List Int) (a : Option Addr) (cap : Nat), v = .slice a l.length cap ∧ l.length ≤ n ∧ (l.length = 0 ∨ ∃ g2, a = some ⟨g2, 0, none⟩ ∧ g2 ≠ g ∧ w.heap.size ≤ g2 ∧ OwnV w1 g2 l.length cap (lf l)) := by
  obtain ⟨l, hl, ⟨B, hB, hB2, ho⟩, hc, hg⟩ := h
  by_cases hz : l.length = 0
  · obtain ⟨a, cap, rfl, hcap, hs⟩ := SrcO.of ho hB
    exact ⟨l, a, cap, rfl, hl, .inl hz⟩
  · obtain ⟨g2, cap, rfl, hg2, ho2⟩ := OwnV.of_owns ho hz
    exact ⟨l, _, cap, rfl, hl, .inr ⟨g2, rfl, by omega, by omega, ho2⟩⟩
end Go.Proofs.YtnipffmookkkdabDoor
namespace Go.Proofs.YtnipffmookkkdabDoor
open Go.RowKit
def Draw2L (N : Nat) (w : World) (e : Ending) (w' : World) : Prop := ∃ (f : Int) (a : Option Addr) (l : List Int) (cap : Nat) (a2 : Option Addr) (m : List Int) (cap2 : Nat),
  e = .returned (.tuple #[.int .i64 f, .slice a l.length cap, .slice a2 m.length cap2]) ∧ l.length ≤ N ∧ m.length ≤ N ∧ Src w' a l.length (lf l) ∧ Src w' a2 m.length (lf m) ∧ Below w.heap.size w w'
end Go.Proofs.YtnipffmookkkdabDoor
namespace Go.Proofs.YtnipffmookkkdabDoor
open Go.RowKit
theorem shl_cast {k : Nat} (h : k ≤ 9) : wrap64 (2 ^ k) = ((2 ^ k : Nat) : Int) ∧ 0 < 2 ^ k ∧ 2 ^ k ≤ 512 := by
  have : 2 ^ k ≤ 2 ^ 9 := Nat.pow_le_pow_right (by omega) h
  refine ⟨?_, Nat.pow_pos (by omega), by omega⟩
  rw [shl_nat (by omega)]
  unfold two
  rw [Int.toNat_natCast, Int.natCast_pow]
  rfl
/-- After one number of the row has been written anew. -/
theorem zpol_put {g : Nat} {w w1 w2 : World} {N n k g2 cap : Nat} {F : Nat → Int} {y : Int} (hn : n ≤ N) (hne : g2 ≠ g) (h2 : w.heap.size ≤ g2) (ho : OwnV w1 g2 n cap F) (hg : w.grownBy w1 (some g)) (g3 : w1.grownBy w2 (some g)) (hc : Cur g w2) (hgl : g < w.heap.size) :
    ZPol g w N (.returned (.slice (some ⟨g2, 0, none⟩) n cap)) (w2.setCell ⟨g2, k, none⟩ (.int .i64 y)) := by
  have ho2 := ho.grown g3 hne
  have ho3 := OwnV.set (s := k) (x := y) ho2
  have hcap : n ≤ cap := by obtain ⟨_, _, h, _⟩ := ho; exact h
  have hg3 : w.grownBy w2 (some g) := hg.trans g3
  have hset : w2.grownBy (w2.setCell ⟨g2, k, none⟩ (.int .i64 y)) (some g2) := grown_set (World.grownBy.refl _ _) _ _
  refine ⟨tab n (upd F k y), some ⟨g2, 0, none⟩, cap, by rw [tab_len], by rw [tab_len]; exact hn, by rw [tab_len]; exact hcap, ?_, ?_, ?_⟩
  · rw [tab_len]
    refine .inr ⟨g2, 0, rfl, hne, ho3.lt, fun j hj => ?_⟩
    rw [Nat.zero_add, ho3.cell hj, lf_tab, if_pos hj]
  · exact hc.other hset (fun r hr => by injection hr with hr; omega)
  · exact grown_new hg3 hset (fun r hr => by injection hr with hr; omega)
/-- The row that was drawn, in a world whose cursor has gone on. -/
def ZKeep (g : Nat) (w w1 : World) (g2 n cap : Nat) (F : Nat → Int) : Prop := w1.ownsRow w.heap.size 3 1 (.slice (some ⟨g2, 0, none⟩) n cap) n (xsF F n) ∧ OwnV w1 g2 n cap F ∧ g2 ≠ g ∧ w.heap.size ≤ g2 ∧ Cur g w1 ∧ w.grownBy w1 (some g)
theorem ZKeep.of {g : Nat} {w w1 : World} {n : Nat} {v : Value} (hB : g < w.heap.size) (hn : n ≠ 0) (h : ZAt g w w1 v n) : ∃ g2 cap F, v = .slice (some ⟨g2, 0, none⟩) n cap ∧ ZKeep g w w1 g2 n cap F := by
  obtain ⟨⟨F, ho⟩, hc, hg, hs⟩ := h
  obtain ⟨g2, cap, rfl, hg2, hov⟩ := OwnV.of_owns ho hn
  exact ⟨g2, cap, F, rfl, ho, hov, by omega, hg2, hc, hg⟩
theorem ZKeep.grown {g : Nat} {w w1 w2 : World} {g2 n cap : Nat} {F : Nat → Int} (h : ZKeep g w w1 g2 n cap F) (hg : w1.grownBy w2 (some g)) (hc : Cur g w2) : ZKeep g w w2 g2 n cap F := by
  obtain ⟨ho, hov, hne, h2, _, hgw⟩ := h
  exact ⟨ho.kept hg (.inr (fun e => by injection e with e; exact hne e)), hov.grown hg hne, hne, h2, hc, hgw.trans hg⟩
theorem ZKeep.pol {g : Nat} {w w1 : World} {g2 n cap N : Nat} {F : Nat → Int} (h : ZKeep g w w1 g2 n cap F) (hn : n ≤ N) : ZPol g w N (.returned (.slice (some ⟨g2, 0, none⟩) n cap)) w1 := by
  obtain ⟨ho, hov, hne, h2, hc, hgw⟩ := h
  have hcap : n ≤ cap := by obtain ⟨_, _, h, _⟩ := hov; exact h
  refine ⟨tab n F, some ⟨g2, 0, none⟩, cap, by rw [tab_len], by rw [tab_len]; exact hn, by rw [tab_len]; exact hcap, ?_, hc, hgw⟩
  rw [tab_len]
  refine .inr ⟨g2, 0, rfl, hne, hov.lt, fun j hj => ?_⟩
  rw [Nat.zero_add, hov.cell hj, lf_tab, if_pos hj]
theorem zpol_more {g : Nat} {w w1 w2 : World} {g2 n cap N : Nat} {F : Nat → Int} {v' : Value} {x : Int} {o : Obj} (hB : g < w.heap.size) (h : ZKeep g w w1 g2 n cap F) (hn : n + 1 ≤ N) (hown' : w2.ownsRow w.heap.size 3 1 v' (n + 1) (xsF F n ++ [.int .i64 x])) (hgrow : (w1.alloc o).grownBy w2 (Value.slice (some ⟨g2, 0, none⟩) n cap).ownBlock) : ZPol g w N (.returned v') w2 := by
  have hz := zdraw_step hB h.2.2.2.2.2 h.2.2.2.2.1 h.1 hown' hgrow
  obtain ⟨l, a, cap2, e, h1, h2, h3, h4, h5⟩ := (ZVal.of hB hz).pol
  exact ⟨l, a, cap2, e, by omega, h2, h3, h4, h5⟩
theorem lower_own {w : World} {B B' : Nat} {v : Value} {n : Nat} {xs : List Value} (h : w.ownsRow B 3 1 v n xs) (hB : B' ≤ B) : w.ownsRow B' 3 1 v n xs := by
  obtain ⟨h1, h2⟩ := h
  refine ⟨h1, h2.imp id ?_⟩
  rintro ⟨g, cap, cur, e, hg, hr⟩
  exact ⟨g, cap, cur, e, Nat.le_trans hB hg, hr⟩
set_option maxRecDepth 100000 in
set_option maxHeartbeats 6400000 in
theorem drawVector_c (g : Nat) (f : Int) (a : Option Addr) (len cap : Nat) (w : World) (hc : Cur g w) (_hl : len ≤ 1048576) : Calls Tryd.prog 88 #[.pointer (some ⟨g, 0, none⟩), .int .i64 f, .slice a len cap] w (ZPol g w 513) := by
  have hB : g < w.heap.size := hc.lt
  obtain ⟨i0, hi, hz0, hz1, hz2⟩ := info_parts info3
  have HI := Lib.hid hi
  have HZ0 := Lib.hid hz0
  have HZ1 := Lib.hid hz1
  have HZ2 := Lib.hid hz2
  clear hi hz0 hz1 hz2
  have hT := T_le f
  go_enter Tryd.func88, Tryd.ntmps88
  go_upto_block 0 with fail
  go_cut [7] from 10 (fun i wc => ∃ k : Nat, i = .int .i64 k ∧ k ≤ 8 ∧ w = wc)
  case first =>
    go_wp2_with fail
    go_loopw [7] (fun i wr => ∃ k : Nat, i = .int .i64 k ∧ k ≤ 8 ∧ w = wr) (fun i _ => 8 - (intOf i).toNat)
    case atStart => exact ⟨0, rfl, by omega, rfl⟩
    case round =>
      obtain ⟨k, rfl, hk, rfl⟩ := hrel
      by_cases h8 : k < 8
      · have hkk : (k : Int) < 8 := by omega
        have hd8 : decide ((k : Int) < 8) = true := decide_eq_true (by omega)
        by_cases hq : wrap64 (4 * 2 ^ k) < (len : Int)
        · have hdq : decide (wrap64 (4 * 2 ^ k) < (len : Int)) = true := decide_eq_true hq
          go_wp2
          go_roundw
          case rel => exact ⟨k + 1, by go_num, by omega, by trivial⟩
          case measure => simp [intOf]; omega
        · have hdq : decide (wrap64 (4 * 2 ^ k) < (len : Int)) = false := decide_eq_false hq
          go_wp2
          go_meet
          case rel => exact ⟨k, rfl, by omega, rfl⟩
      · obtain rfl : k = 8 := by omega
        go_wp2
        go_meet
        case rel => exact ⟨8, rfl, by omega, rfl⟩
  case rest =>
    obtain ⟨k0, rfl, hk0, rfl⟩ := hcut
    go_wp2_with fail
    refine (below_c g ((k0 : Int) + 2) w hc (by omega) (by omega)).mono ?_
    rintro e w2 ⟨x, ⟨x0, x1⟩, rfl, g2, c2⟩
    obtain ⟨x, rfl⟩ := Int.eq_ofNat_of_zero_le x0
    have hx9 : x ≤ 9 := by omega
    clear x0 x1 hk0
    go_wp2_with fail
    refine (sTwoPower f w2).mono ?_
    rintro e w' ⟨rfl, rfl⟩
    go_upto_region 6 with fail
    go_cut [34] from 28 (fun s wd => ∃ b6 : Bool, s = .bool b6 ∧ (b6 = true → 0 ≤ T f ∧ T f < x) ∧ w2 = wd)
    case first =>
      by_cases h1 : 0 ≤ T f
      · have d1 : decide (0 ≤ T f) = true := decide_eq_true h1
        by_cases h2 : T f < x
        · have d2 : decide (T f < (x : Int)) = true := decide_eq_true h2
          go_wp2
          go_meet
          case rel => exact ⟨true, rfl, fun _ => ⟨h1, h2⟩, rfl⟩
        · have d2 : decide (T f < (x : Int)) = false := decide_eq_false h2
          go_wp2
          go_meet
          case rel => exact ⟨false, rfl, (fun h => by cases h), rfl⟩
      · have d1 : decide (0 ≤ T f) = false := decide_eq_false h1
        go_wp2
        go_meet
        case rel => exact ⟨false, rfl, (fun h => by cases h), rfl⟩
    case rest =>
      obtain ⟨b6, rfl, hb6, rfl⟩ := hcut
      go_upto_if 34 with fail
      go_cut [7] from 28 (fun s wd => ∃ k : Nat, s = .int .i64 k ∧ k ≤ 9 ∧ w2 = wd)
      case first =>
        cases b6
        · go_wp2
          go_meet
          case rel => exact ⟨x, rfl, hx9, rfl⟩
        · obtain ⟨h1, h2⟩ := hb6 rfl
          go_wp2
          go_meet
          case rel => exact ⟨(T f).toNat, vint (by omega), by omega, rfl⟩
      case rest =>
        obtain ⟨k1, rfl, hk1, rfl⟩ := hcut
        clear hb6 hx9
        go_wp2_with fail
        refine (once_c g 25 w2 c2 (by omega) (by omega)).mono ?_
        rintro e w3 ⟨b3, rfl, g3, c3⟩
        have g3w := g2.trans g3
        clear g2 g3 c2
        go_upto_if 37 with fail
        go_cut [7] from 28 (fun s w5 => ∃ k : Nat, s = .int .i64 k ∧ k ≤ 9 ∧ Cur g w5 ∧ w.grownBy w5 (some g))
        case first =>
          cases b3
          · go_wp2
            go_meet
            case rel => exact ⟨k1, rfl, hk1, c3, g3w⟩
          · go_wp2_with fail
            refine (pick_c (fun n => 0 ≤ n ∧ n ≤ 9) g w3.heap.size 3 3 _ (c3.alloc _) (by omega) (by omega) (ints_alloc _ c3.lt #[.int .i64 0, .int .i64 5, .int .i64 9] 3 (fun j hj => by
              have h3 : j = 0 ∨ j = 1 ∨ j = 2 := by have : j < 3 := hj; omega
              rcases h3 with rfl | rfl | rfl <;> exact ⟨_, rfl, by omega⟩))).mono ?_
            rintro e w4 ⟨z, ⟨z0, z9⟩, rfl, g4, c4⟩
            obtain ⟨z, rfl⟩ := Int.eq_ofNat_of_zero_le z0
            have g4w := g3w.trans ((World.grownBy_alloc w3 _ (some g)).trans g4)
            go_wp2
            go_meet
            case rel => exact ⟨z, rfl, by omega, c4, g4w⟩
        case rest =>
          obtain ⟨k, rfl, hk, c5, g5⟩ := hcut
          obtain ⟨w5, rfl⟩ : ∃ w5, w5 = wc := ⟨wc, rfl⟩
          obtain ⟨e2, p0, p5⟩ := shl_cast (k := k) (by omega)
          have HE2 := Lib.hid e2
          clear e2
          go_wp2_with fail
          rw [HE2.out]
          generalize 2 ^ k = n at *
          refine (drawList_c g f n w5 c5 (by omega)).mono ?_
          rintro e w6 ⟨v6, rfl, hz6⟩
          obtain ⟨g2, cap2, F, rfl, hk6⟩ := ZKeep.of c5.lt (by omega) hz6
          have HK6 : Hid (ZKeep g w w6 g2 n cap2 F) := Lib.hid ⟨by exact lower_own hk6.1 g5.size, hk6.2.1, hk6.2.2.1, Nat.le_trans g5.size hk6.2.2.2.1, hk6.2.2.2.2.1, g5.trans hk6.2.2.2.2.2⟩
          have c6 := hk6.2.2.2.2.1
          clear hz6 hk6 c5 g5 HE2
          go_wp2_with fail
          refine (once_c g 12 w6 c6 (by omega) (by omega)).mono ?_
          rintro e w7 ⟨b7, rfl, g7, c7⟩
          have HK7 := Lib.hid (HK6.out.grown g7 c7)
          clear HK6 g7 c6
          cases b7
          · go_wp2
            go_ret
            exact HK7.out.pol (by omega)
          · go_wp2_with fail
            refine (below_c g 3 w7 c7 (by omega) (by omega)).mono ?_
            rintro e w8 ⟨u, ⟨u0, u1⟩, rfl, g8, c8⟩
            have HK8 := Lib.hid (HK7.out.grown g8 c8)
            clear HK7 g8 c7
            by_cases hu0 : u = 0
            · subst hu0
              have hown8 := HK8.out.1
              have hs8 : w.heap.size ≤ w8.heap.size := HK8.out.2.2.2.2.2.size
              go_wp2_with (at_builtin; refine wpList_append_own _ rfl _ _ 22 rfl w.heap.size 3 i0 (.int .i64 0) 1 8 Tryd.underlying22 HI.out HZ0.out HZ1.out HZ2.out rfl (by decide) _ _ _ rfl (hown8.alloc _) ⟨w8.heap.size, 0, none⟩ 1 1 [.int .i64 (0)] rfl rfl ?c1 ?c2 ?c3 ?c4 ?c5 ?_)
              case c1 => exact cell_one_new _ _ _
              case c2 => intro u hu; simp at hu; subst hu; rfl
              case c3 => unfold maxLen; omega
              case c4 => omega
              case c5 => simp; omega
              intro v' w9 hown' hgrow _
              have HF := Lib.hid (zpol_more (N := 513) hB HK8.out (by omega) hown' hgrow)
              clear hown' hgrow hown8 HK8
              go_wp2
              go_ret
              exact HF.out
            · have hb0 : (u == 0) = false := by simpa using hu0
              by_cases hu1 : u = 1
              · subst hu1
                go_wp2_with fail
                refine (below_c g n w8 c8 (by omega) (by omega)).mono ?_
                rintro e w9 ⟨t, ⟨t0, t1⟩, rfl, g9, c9⟩
                obtain ⟨t, rfl⟩ := Int.eq_ofNat_of_zero_le t0
                have HK9 := Lib.hid (HK8.out.grown g9 c9)
                clear HK8 g9 c8
                go_wp2_with fail
                refine (sModulus f w9).mono ?_
                rintro e w' ⟨rfl, rfl⟩
                go_wp2_with fail
                refine (pick_c (fun _ => True) g w9.heap.size 2 2 _ (c9.alloc _) (by omega) (by omega) (ints_alloc (fun _ => True) c9.lt #[.int .i64 (-1), .int .i64 (P f)] 3 (fun j hj => by
                  have h3 : j = 0 ∨ j = 1 := by have : j < 2 := hj; omega
                  rcases h3 with rfl | rfl <;> exact ⟨_, rfl, trivial⟩))).mono ?_
                rintro e w10 ⟨y, _, rfl, g10, c10⟩
                have g10' := (World.grownBy_alloc w9 _ (some g)).trans g10
                have HO10 := Lib.hid (HK9.out.2.1.grown g10' HK9.out.2.2.1)
                have cc := HO10.out.cell (show t < n by omega)
                have fr := HO10.out.frozen t
                have tn : (t : Int) < (n : Int) := t1
                have HF : Hid (ZPol g w 513 (.returned (.slice (some ⟨g2, 0, none⟩) n cap2)) (w10.setCell ⟨g2, t, none⟩ (.int .i64 y))) := Lib.hid (zpol_put (by omega) HK9.out.2.2.1 HK9.out.2.2.2.1 HK9.out.2.1 HK9.out.2.2.2.2.2 g10' c10 hB)
                clear HK9 g10' g10
                go_wp2
                go_ret
                exact HF.out
              · have hb1 : (u == 1) = false := by simpa using hu1
                obtain rfl : u = 2 := by omega
                have HF : Hid (ZPol g w 513 (.returned (.slice none 0 0)) w8) := Lib.hid ⟨[], none, 0, rfl, by simp, by simp, .inl rfl, c8, HK8.out.2.2.2.2.2⟩
                clear HK8
                go_wp2
                go_ret
                exact HF.out
def Draw1L (N : Nat) (w : World) (e : Ending) (w' : World) : Prop := ∃ (f : Int) (a : Option Addr) (l : List Int) (cap : Nat),
  e = .returned (.tuple #[.int .i64 f, .slice a l.length cap]) ∧ l.length ≤ N ∧ Src w' a l.length (lf l) ∧ Below w.heap.size w w'
set_option maxHeartbeats 800000 in
theorem drawOne_c (a : Option Addr) (len cap : Nat) (w : World) (hl : len ≤ 1048576) (hc : Code w a len) : Calls Tryd.prog 52 #[.slice a len cap] w (Draw1L 1048576 w) := by
  go_enter Tryd.func52, Tryd.ntmps52
  go_wp2_with fail
  refine (new_c a len cap w hc).mono ?_
  rintro e w1 ⟨rfl, b1, c1⟩
  go_wp2_with fail
  refine (field_c w.heap.size w1 c1).mono ?_
  rintro e w2 ⟨f, _, rfl, g2, c2⟩
  go_wp2_with fail
  refine (drawVector_c w.heap.size f a len cap w2 c2 hl).mono ?_
  rintro e w3 ⟨l, a3, cap3, rfl, hl3, _, s3, c3, g3⟩
  have b3 := below_of_grown b1 (g2.trans g3)
  have HS3 := Lib.hid s3
  clear b1 g2 g3 c1 c2 s3 hc
  go_wp2
  go_ret2
  exact ⟨f, a3, l, cap3, rfl, by omega, HS3.out.src, b3⟩
theorem drawForward_c (a : Option Addr) (len cap : Nat) (w : World) (hl : len ≤ 1048576) (hc : Code w a len) : Calls Tryd.prog 17 #[.slice a len cap] w (Draw1L 1048576 w) := by
  go_enter Tryd.func17, Tryd.ntmps17
  go_wp2_with fail
  refine (drawOne_c a len cap w hl hc).mono ?_
  rintro e w1 ⟨f, a1, l, cap1, rfl, h1, s1, b1⟩
  have HS1 := Lib.hid s1
  clear s1
  go_wp2
  go_ret2
  exact ⟨f, a1, l, cap1, rfl, h1, HS1.out, b1⟩
set_option maxRecDepth 100000 in
set_option maxHeartbeats 1600000 in
theorem drawTwo4_c (a : Option Addr) (len cap : Nat) (w : World) (hl : len ≤ 1048576) (hc : Code w a len) : Calls Tryd.prog 57 #[.slice a len cap] w (Draw2L 1048576 w) := by
  go_enter Tryd.func57, Tryd.ntmps57
  go_wp2_with fail
  refine (new_c a len cap w hc).mono ?_
  rintro e w1 ⟨rfl, b1, c1⟩
  go_wp2_with fail
  refine (field_c w.heap.size w1 c1).mono ?_
  rintro e w2 ⟨f, _, rfl, g2, c2⟩
  go_wp2_with fail
  refine (drawVector_c w.heap.size f a len cap w2 c2 hl).mono ?_
  rintro e w3 ⟨l, a3, cap3, rfl, hl3, _, s3, c3, g3⟩
  have b3 := below_of_grown b1 (g2.trans g3)
  have HS3 := Lib.hid s3
  clear b1 g2 g3 c1 c2 s3 hc
  go_wp2_with fail
  refine (once_c w.heap.size 12 w3 c3 (by omega) (by omega)).mono ?_
  rintro e w4 ⟨b4, rfl, g4, c4⟩
  have b4w := below_of_grown b3 g4
  have HS4 := Lib.hid (HS3.out.grown g4)
  clear b3 g4 c3 HS3
  cases b4
  · go_wp2_with fail
    refine (drawList_c w.heap.size f l.length w4 c4 (by omega)).mono ?_
    rintro e w5 ⟨v5, rfl, hz5⟩
    obtain ⟨m, a5, cap5, hv5, hm5, _, s5, c5, g5⟩ := (ZVal.of c4.lt hz5).pol
    cases hv5
    have b5 := below_of_grown b4w g5
    have HS5 := Lib.hid (HS4.out.grown g5)
    have HM5 := Lib.hid s5
    clear b4w g5 c4 HS4 s5 hz5
    go_wp2
    go_ret3
    exact ⟨f, a3, l, cap3, a5, m, cap5, rfl, by omega, by omega, HS5.out.src, HM5.out.src, b5⟩
  · have e2 : (2 : Int) * l.length = ((2 * l.length : Nat) : Int) := by omega
    have HE2 := Lib.hid e2
    clear e2
    go_wp2_with fail
    rw [HE2.out]
    refine (drawList_c w.heap.size f (2 * l.length) w4 c4 (by omega)).mono ?_
    rintro e w5 ⟨v5, rfl, hz5⟩
    obtain ⟨m, a5, cap5, hv5, hm5, _, s5, c5, g5⟩ := (ZVal.of c4.lt hz5).pol
    cases hv5
    have b5 := below_of_grown b4w g5
    have HS5 := Lib.hid (HS4.out.grown g5)
    have HM5 := Lib.hid s5
    clear b4w g5 c4 HS4 s5 hz5 HE2
    go_wp2
    go_ret3
    exact ⟨f, a3, l, cap3, a5, m, cap5, rfl, by omega, by omega, HS5.out.src, HM5.out.src, b5⟩
theorem drawCyclic_c (a : Option Addr) (len cap : Nat) (w : World) (hl : len ≤ 1048576) (hc : Code w a len) : Calls Tryd.prog 23 #[.slice a len cap] w (Draw2L 1048576 w) := by
  go_enter Tryd.func23, Tryd.ntmps23
  go_wp2_with fail
  refine (drawTwo4_c a len cap w hl hc).mono ?_
  rintro e w1 ⟨f, a1, l, cap1, a2, m, cap2, rfl, h1, h2, s1, s2, b1⟩
  have HS1 := Lib.hid s1
  have HS2 := Lib.hid s2
  clear s1 s2
  go_wp2
  go_ret3
  exact ⟨f, a1, l, cap1, a2, m, cap2, rfl, h1, h2, HS1.out, HS2.out, b1⟩
theorem drawTwisted_c (a : Option Addr) (len cap : Nat) (w : World) (hl : len ≤ 1048576) (hc : Code w a len) : Calls Tryd.prog 39 #[.slice a len cap] w (Draw2L 1048576 w) := by
  go_enter Tryd.func39, Tryd.ntmps39
  go_wp2_with fail
  refine (drawTwo4_c a len cap w hl hc).mono ?_
  rintro e w1 ⟨f, a1, l, cap1, a2, m, cap2, rfl, h1, h2, s1, s2, b1⟩
  have HS1 := Lib.hid s1
  have HS2 := Lib.hid s2
  clear s1 s2
  go_wp2
  go_ret3
  exact ⟨f, a1, l, cap1, a2, m, cap2, rfl, h1, h2, HS1.out, HS2.out, b1⟩
def DrawLI (N : Nat) (w : World) (e : Ending) (w' : World) : Prop := ∃ (f : Int) (a : Option Addr) (l : List Int) (cap : Nat) (r : Int),
  e = .returned (.tuple #[.int .i64 f, .slice a l.length cap, .int .i64 r]) ∧ l.length ≤ N ∧ Src w' a l.length (lf l) ∧ Below w.heap.size w w'
set_option maxHeartbeats 800000 in
theorem drawRotate_c (a : Option Addr) (len cap : Nat) (w : World) (hl : len ≤ 1048576) (hc : Code w a len) : Calls Tryd.prog 35 #[.slice a len cap] w (DrawLI 1048576 w) := by
  go_enter Tryd.func35, Tryd.ntmps35
  go_wp2_with fail
  refine (drawOne_c a len cap w hl hc).mono ?_
  rintro e w1 ⟨f, a1, l, cap1, rfl, h1, s1, b1⟩
  have HS1 := Lib.hid s1
  have hc1 := hc.keep b1
  clear s1 hc
  go_wp2_with fail
  refine (new_c a len cap w1 hc1).mono ?_
  rintro e w2 ⟨rfl, b2, c2⟩
  clear hc1
  go_wp2_with fail
  refine (below_c w1.heap.size 600 w2 c2 (by omega) (by omega)).mono ?_
  rintro e w3 ⟨x, ⟨x0, x1⟩, rfl, g3, c3⟩
  go_wp2_with fail
  refine (below_c w1.heap.size 600 w3 c3 (by omega) (by omega)).mono ?_
  rintro e w4 ⟨y, ⟨y0, y1⟩, rfl, g4, c4⟩
  go_wp2_with fail
  refine (pick_c (fun _ => True) w1.heap.size w4.heap.size 7 7 _ (c4.alloc _) (by omega) (by omega) (ints_alloc (fun _ => True) c4.lt #[.int .i64 0, .int .i64 1, .int .i64 (-1), .int .i64 x, .int .i64 (-y), .int .i64 9223372036854775807, .int .i64 (-9223372036854775808)] 3 (fun j hj => by
    have h3 : j = 0 ∨ j = 1 ∨ j = 2 ∨ j = 3 ∨ j = 4 ∨ j = 5 ∨ j = 6 := by have : j < 7 := hj; omega
    rcases h3 with rfl | rfl | rfl | rfl | rfl | rfl | rfl <;> exact ⟨_, rfl, trivial⟩))).mono ?_
  rintro e w5 ⟨u, _, rfl, g5, c5⟩
  have b5 := below_of_grown b2 ((g3.trans g4).trans ((World.grownBy_alloc w4 _ (some w1.heap.size)).trans g5))
  have HS5 : Hid (Src w5 a1 l.length (lf l)) := Lib.hid (HS1.out.keep b5)
  have b5w := below_step b1 b5
  clear b1 b2 b5 g3 g4 g5 c2 c3 c4 HS1
  go_wp2
  go_ret3
  exact ⟨f, a1, l, cap1, u, rfl, h1, HS5.out, b5w⟩
end Go.Proofs.YtnipffmookkkdabDoor
namespace Go.Proofs.YtnipffmookkkdabDoor
open Go.RowKit
/-- 1, 0, 0, .. -/
def oneL (n : Nat) : List Int := tab n fun j => if j = 0 then 1 else 0
set_option maxRecDepth 100000 in
set_option maxHeartbeats 1600000 in
theorem sRingOne_on (f : Int) (n k : Nat) (w : World) (hn0 : 0 < n) (hn5 : n ≤ 512) (hl : mLog n = k) (hk : (k : Int) ≤ T f) : Calls Tryd.prog 27 #[.int .i64 f, .int .i64 n] w (ListL w (oneL n)) := by
  obtain ⟨i0, hi, hz0, hz1, hz2⟩ := info_parts info3
  have HI := Lib.hid hi
  have HZ0 := Lib.hid hz0
  have HZ1 := Lib.hid hz1
  have HZ2 := Lib.hid hz2
  clear hi hz0 hz1 hz2
  have d0 : decide ((k : Int) < 0) = false := decide_eq_false (by omega)
  have d1 : decide (T f < (k : Int)) = false := decide_eq_false (by omega)
  have HL := Lib.hid hl
  have HO1 : Hid ((w.alloc (.cells #[.int .i64 1] 3)).ownsRow w.heap.size 3 1 (.slice (some ⟨w.heap.size, 0, none⟩) 1 1) 1 (xsF (fun j => if j = 0 then (1 : Int) else 0) 1)) := Lib.hid (own_new w (.int .i64 1) 3)
  clear hl
  go_enter Tryd.func27, Tryd.ntmps27
  go_wp2_with fail
  refine (sLogOf n w).mono ?_
  rintro e w' ⟨rfl, rfl⟩
  rw [HL.out]
  go_wp2_with fail
  refine (sTwoPower f w).mono ?_
  rintro e w' ⟨rfl, rfl⟩
  go_wp2_with fail
  go_loopw [6, 7] (fun v i wr => ∃ k : Nat, i = .int .i64 k ∧ 1 ≤ k ∧ k ≤ n ∧ wr.ownsRow w.heap.size 3 1 v k (xsF (fun j => if j = 0 then (1 : Int) else 0) k) ∧ Below w.heap.size w wr) (fun _ i _ => n - (intOf i).toNat)
  case atStart => exact ⟨1, rfl, by omega, by omega, HO1.out, (Below.refl _ _).alloc (Nat.le_refl _) _⟩
  case round =>
    clear HO1
    obtain ⟨k, rfl, hk1, hk, hown, hnx⟩ := hrel
    have hs := hnx.size
    by_cases h1 : k < n
    · have hd1 : decide ((k : Int) < n) = true := decide_eq_true (by omega)
      have HZ : Hid ((if k = 0 then (1 : Int) else 0) = 0) := Lib.hid (if_neg (by omega))
      go_wp2_with (at_builtin; refine wpList_append_own _ rfl _ _ 22 rfl w.heap.size 3 i0 (.int .i64 0) 1 8 Tryd.underlying22 HI.out HZ0.out HZ1.out HZ2.out rfl (by decide) _ _ _ rfl (hown.alloc _) ⟨wr.heap.size, 0, none⟩ 1 1 [.int .i64 0] rfl rfl ?c1 ?c2 ?c3 ?c4 ?c5 ?_)
      case c1 => exact cell_one_new _ _ _
      case c2 => intro u hu; simp at hu; subst hu; rfl
      case c3 => unfold maxLen; omega
      case c4 => omega
      case c5 => simp; omega
      intro v' w1 hown' hgrow _
      have hbel : Below w.heap.size w w1 := (hnx.alloc hs _).grown hgrow (by simp; omega) (own_ge hown)
      have hown2 : w1.ownsRow w.heap.size 3 1 v' (k + 1) (xsF (fun j => if j = 0 then (1 : Int) else 0) (k + 1)) := by
        rw [← xsF_succ, HZ.out]; exact hown'
      clear hgrow hown hown'
      go_wp2
      go_roundw
      case rel => exact ⟨k + 1, by go_num, by omega, by omega, hown2, hbel⟩
      case measure => simp [intOf]; omega
    · have hd1 : decide ((k : Int) < n) = false := decide_eq_false (by omega)
      obtain rfl : k = n := by omega
      have HO := Lib.hid (owns_to (w := w) (l := oneL k) hown (by unfold oneL; rw [tab_len]) (fun j hj => by unfold oneL; rw [lf_tab, if_pos hj]) hnx)
      clear hown
      go_wp2
      go_ret
      exact HO.out.list
theorem oneL_ok {f : Int} {l : List Int} (h : VecOk f l) : TwoOk f (oneL l.length) l ∧ mCorrelate f (oneL l.length) l = l := by
  have hp := P_bd h.f08.1 h.f08.2
  have hlen : (oneL l.length).length = l.length := tab_len _ _
  have hv : VecOk f (oneL l.length) := h.tab rfl _ fun j _ => by split <;> omega
  have h2 : TwoOk f (oneL l.length) l := ⟨hlen, hv, h⟩
  refine ⟨h2, ?_⟩
  unfold mCorrelate
  rw [if_pos h2]
  refine list_ext (by unfold corL; rw [tab_len, hlen]) fun i hi => ?_
  have hi2 : i < l.length := by unfold corL at hi; rw [tab_len, hlen] at hi; exact hi
  have hb := h.lt i
  unfold corL
  rw [hlen, lf_tab, if_pos hi2, cor_one (by unfold oneL; rw [lf_tab, if_pos h.pos.1]; rfl) (fun j j0 jn => by unfold oneL; rw [lf_tab, if_pos jn, if_neg (by omega)]) hi2]
  exact RS_self hb.1 hb.2
theorem dot_sum {f : Int} (h0 : 0 ≤ f) (h8 : f ≤ 8) (A B : Nat → Int) (k : Nat) : dotF f A B k = RS (sumN (fun j => A j * B j) k) (P f) := by
  induction k with
  | zero => simp [dotF, sumN, RS]
  | succ k ih =>
    rw [dotF, ih, mAdd, if_pos ⟨h0, h8⟩, mMul, if_pos ⟨h0, h8⟩, RS_add]
    rfl
/-- What FnEnergy asks. -/
theorem energy_facts {f : Int} {l : List Int} (h : VecOk f l) : mDot f (lf (fwdL f l)) (lf (fwdL f l)) l.length l.length = mMul f l.length (mEnergy f l) := by
  have h08 := h.f08
  have hpos := h.pos
  rw [mDot, if_pos ⟨h08, by omega, by omega⟩, Nat.min_self, dot_sum h08.1 h08.2, mMul, if_pos h08, show mEnergy f l = RS (enF l.length (lf l)) (P f) by unfold mEnergy; rw [if_pos h]]
  have := fwd_energy h
  unfold RS
  rw [this, Int.mul_emod, Int.mul_emod (l.length : Int) (enF l.length (lf l) % P f), Int.emod_emod_of_dvd (enF l.length (lf l)) (Int.dvd_refl _)]
set_option maxHeartbeats 1600000 in
theorem sConvPoly (f : Int) (a : Option Addr) (l : List Int) (cap : Nat) (a2 : Option Addr) (m : List Int) (cap2 : Nat) (w : World) (hn : l.length ≤ 1048576) (hn2 : m.length ≤ 1048576) (hs : Src w a l.length (lf l)) (hs2 : Src w a2 m.length (lf m)) :
    Calls Tryd.prog 10 #[.int .i64 f, .slice a l.length cap, .slice a2 m.length cap2] w (ListLB w (mConvPoly0 f l m) (mConvPoly1 f l m)) := by
  by_cases hk : okMul f l m
  · have HM := Lib.hid (sMulPoly_on f a l cap a2 m cap2 w hn hn2 hs hs2 hk)
    have h08 := hk.1.1
    have hT := T_bd h08.1 h08.2
    have hml := mulL_le f l m
    have hlen : (mulL f l m).length ≤ 400 := by have := hk.2.2; omega
    obtain ⟨t, ht⟩ : ∃ t : Nat, T f = (t : Int) := ⟨(T f).toNat, by omega⟩
    have HT := Lib.hid ht
    by_cases h9 : (9 : Int) < T f
    · -- the limit is 2^9: never reached
      have hok : okConv f l m := ⟨hk, by rw [show (min 9 (T f)).toNat = 9 by omega]; omega⟩
      rw [show mConvPoly0 f l m = mulL f l m by unfold mConvPoly0; rw [if_pos hok], show mConvPoly1 f l m = true by unfold mConvPoly1; simp [hok]]
      have d9 : decide ((9 : Int) < T f) = true := decide_eq_true h9
      have dl : decide ((512 : Int) < (mulL f l m).length) = false := decide_eq_false (by omega)
      clear hs hs2 hok hk ht
      go_enter Tryd.func10, Tryd.ntmps10
      go_wp2_with fail
      refine HM.out.mono ?_
      rintro e w1 ⟨a1, cap1, rfl, s1, b1⟩
      have HS1 := Lib.hid s1
      clear s1 HM
      go_wp2_with fail
      refine (sTwoPower f w1).mono ?_
      rintro e w' ⟨rfl, rfl⟩
      go_wp2
      go_ret2
      exact ⟨a1, cap1, rfl, HS1.out, b1⟩
    · have ht9 : t ≤ 9 := by omega
      have d9 : decide ((9 : Int) < (t : Int)) = false := decide_eq_false (by omega)
      obtain ⟨e2, p0, p5⟩ := shl_cast (k := t) (by omega)
      have HE2 := Lib.hid e2
      have em : (min 9 (T f)).toNat = t := by omega
      by_cases hle : (mulL f l m).length ≤ 2 ^ t
      · have h2t : ((2 ^ t : Nat) : Int) = 2 ^ t := by
          rw [Int.natCast_pow]
          rfl
        have hok : okConv f l m := ⟨hk, by rw [em]; omega⟩
        clear h2t
        rw [show mConvPoly0 f l m = mulL f l m by unfold mConvPoly0; rw [if_pos hok], show mConvPoly1 f l m = true by unfold mConvPoly1; simp [hok]]
        clear hs hs2 hok hk ht em
        obtain ⟨q, hq⟩ : ∃ q, 2 ^ t = q := ⟨_, rfl⟩
        rw [hq] at HE2 hle
        have dl : decide ((q : Int) < (mulL f l m).length) = false := decide_eq_false (by omega)
        clear e2 p0 p5 hq
        go_enter Tryd.func10, Tryd.ntmps10
        go_wp2_with fail
        refine HM.out.mono ?_
        rintro e w1 ⟨a1, cap1, rfl, s1, b1⟩
        have HS1 := Lib.hid s1
        clear s1 HM
        go_wp2_with fail
        refine (sTwoPower f w1).mono ?_
        rintro e w' ⟨rfl, rfl⟩
        rw [HT.out]
        have e3 := HE2.out
        go_wp2
        go_ret2
        exact ⟨a1, cap1, rfl, HS1.out, b1⟩
      · have hno : ¬ okConv f l m := fun h => hle (by
          have h2 := h.2
          rw [em] at h2
          have h2t : ((2 ^ t : Nat) : Int) = 2 ^ t := by
            rw [Int.natCast_pow]
            rfl
          omega)
        rw [show mConvPoly0 f l m = [] by unfold mConvPoly0; rw [if_neg hno], show mConvPoly1 f l m = false by unfold mConvPoly1; simp [hno]]
        clear hs hs2 hno hk ht em
        obtain ⟨q, hq⟩ : ∃ q, 2 ^ t = q := ⟨_, rfl⟩
        rw [hq] at HE2 hle
        have dl : decide ((q : Int) < (mulL f l m).length) = true := decide_eq_true (by omega)
        clear e2 p0 p5 hq
        go_enter Tryd.func10, Tryd.ntmps10
        go_wp2_with fail
        refine HM.out.mono ?_
        rintro e w1 ⟨a1, cap1, rfl, s1, b1⟩
        have HS1 := Lib.hid s1
        clear s1 HM
        go_wp2_with fail
        refine (sTwoPower f w1).mono ?_
        rintro e w' ⟨rfl, rfl⟩
        rw [HT.out]
        have e3 := HE2.out
        go_wp2
        go_ret2
        exact ⟨none, 0, rfl, .inl rfl, b1⟩
  · have hno : ¬ okConv f l m := fun h => hk h.1
    rw [show mConvPoly0 f l m = [] by unfold mConvPoly0; rw [if_neg hno], show mConvPoly1 f l m = false by unfold mConvPoly1; simp [hno]]
    have HM := Lib.hid (sMulPoly_off f a l cap a2 m cap2 w hn hn2 hs hs2 hk)
    clear hs hs2 hno hk
    go_enter Tryd.func10, Tryd.ntmps10
    go_wp2_with fail
    refine HM.out.mono ?_
    rintro e w1 ⟨rfl, b1⟩
    clear HM
    go_wp2
    go_ret2
    exact ⟨none, 0, rfl, .inl rfl, b1⟩
end Go.Proofs.YtnipffmookkkdabDoor
