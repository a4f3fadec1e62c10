/-
  Texts of the proofs of this seat, joined (part 4).
-/
import Derived.Shelf.Small.Bits
import Derived.Test.YtaapmpjkcddababDoorProg
import Derived.Lib.ItoaNum
import Derived.Test.YtaapmpjkcddababDoorJ3
namespace Go.Proofs
open Go.Shelf
def Tryd.lays125_ren : Go.Shelf.Ren := ⟨fun | 125 => 40 | 128 => 73 | 129 => 74 | n => n, fun | 46 => 56 | 3 => 3 | 51 => 81 | 53 => 83 | 4 => 4 | 5 => 5 | 9 => 9 | n => n, fun | n => n⟩
theorem Tryd.lays125 : Go.Proofs.Lays.n125 Tryd.prog Tryd.lays125_ren := {
  mixed := by kernel_rfl
  f125 := Tryd.func40.trans (congrArg some (by kernel_rfl))
  f128 := Tryd.func73.trans (congrArg some (by kernel_rfl))
  f129 := Tryd.func74.trans (congrArg some (by kernel_rfl))
  t3 := Tryd.underlying3
  a3 := Tryd.isAgg3
  z3 := Tryd.sizeOf3
  v3 := Tryd.zeroValue3
  t4 := Tryd.underlying4
  a4 := Tryd.isAgg4
  z4 := Tryd.sizeOf4
  v4 := Tryd.zeroValue4
  t5 := Tryd.underlying5
  a5 := Tryd.isAgg5
  z5 := Tryd.sizeOf5
  v5 := Tryd.zeroValue5
  t9 := Tryd.underlying9
  a9 := Tryd.isAgg9
  z9 := Tryd.sizeOf9
  v9 := Tryd.zeroValue9
  t46 := Tryd.underlying56
  a46 := Tryd.isAgg56
  z46 := Tryd.sizeOf56
  v46 := Tryd.zeroValue56
  t51 := Tryd.underlying81
  a51 := Tryd.isAgg81
  z51 := Tryd.sizeOf81
  v51 := Tryd.zeroValue81
  t53 := Tryd.underlying83
  a53 := Tryd.isAgg83
  z53 := Tryd.sizeOf83
  v53 := Tryd.zeroValue83 }
theorem Tryd.bits_Len (x : Int) (w : World) (h0 : 0 ≤ x) (h1 : x ≤ 18446744073709551615) :
    Calls Tryd.prog 40 #[.int .u64 x] w fun e w' => e = .returned (.int .i64 (Lib.bitLen x.toNat)) ∧ w' = w := Any.bits_Len Tryd.lays125 x w h0 h1
end Go.Proofs
namespace Go.Proofs.YtaapmpjkcddababDoor
open Go.RowKit
theorem bit_step (E p : Nat) : E / 2 ^ p = 2 * (E / 2 ^ (p + 1)) + (E / 2 ^ p) % 2 := by
  rw [Nat.pow_succ, ← Nat.div_div_eq_div_mul]
  omega
theorem bit_int (E p : Nat) : (((E : Int) / 2 ^ p).tmod 2 == 1) = decide ((E / 2 ^ p) % 2 = 1) := by
  have e : ((E : Int) / 2 ^ p) = ((E / 2 ^ p : Nat) : Int) := by
    rw [Int.natCast_ediv, Int.natCast_pow]
    rfl
  rw [e]
  clear e
  generalize E / 2 ^ p = Q
  rw [Int.tmod_eq_emod_of_nonneg (by omega)]
  by_cases h : Q % 2 = 1
  · rw [decide_eq_true h, beq_iff_eq]; omega
  · rw [decide_eq_false h, beq_eq_false_iff_ne]; omega
theorem pow_two {A : Int} {q : Nat} : A ^ q * A ^ q = A ^ (2 * q) := by rw [← Int.pow_add]; congr 1; omega
theorem bits_lt {E : Nat} (h : E ≤ 1000) : E < 2 ^ Lib.bitLen E ∧ Lib.bitLen E ≤ 10 := by
  by_cases hz : E = 0
  · rw [hz]; decide
  · have h1 := Lib.bitLenAux_bounds 64 E (by omega) hz
    refine ⟨h1.2.2, ?_⟩
    by_cases h2 : Lib.bitLen E ≤ 10
    · exact h2
    · exfalso
      have h3 : 2 ^ 10 ≤ 2 ^ (Lib.bitLen E - 1) := Nat.pow_le_pow_right (by omega) (by omega)
      have h4 : 2 ^ (Lib.bitLen E - 1) ≤ E := h1.2.1
      omega
set_option maxRecDepth 100000 in
set_option maxHeartbeats 3200000 in
theorem iPowText_on (a : ByteArray) (E : Nat) (w : World) (ha : DigOk a) (hE : E ≤ 1000) (ht : Tab w) :
    Calls Tryd.prog 12 #[.string a, .int .i64 E] w (TextB w (mPowText0 a E) (mPowText1 a E)) := by
  have HSA := ha.1
  have G1 := iDigitsOk a w (by omega)
  rw [dig_iff.2 ha] at G1
  obtain ⟨hL1, hL2⟩ := bits_lt hE
  have HBL : Hid (Calls Tryd.prog 40 #[.int .u64 E] w fun e w' => e = .returned (.int .i64 (Lib.bitLen E : Nat)) ∧ w = w') := Lib.hid (by
    have := Tryd.bits_Len (E : Int) w (by omega) (by omega)
    rw [Int.toNat_natCast] at this
    exact this.mono fun _ _ h => ⟨h.1, h.2.symm⟩)
  have HSQ : Hid (∀ (t : ByteArray) (q : Nat) (W : World), Below w.heap.size w W → TxtOf (numV a ^ q) t → t.size ≤ 300 → Calls Tryd.prog 38 #[.string t, .string t] W fun e w' => ∃ u, e = .returned (.string u) ∧ Below w.heap.size w w' ∧ TxtOf (numV a ^ (2 * q)) u ∧ u.size ≤ 600) := Lib.hid fun t q W hb h hs => (productText_c t t W (ht.below hb) h h (by omega) (by omega)).mono fun e w' r => by
    obtain ⟨r1, r2, r3⟩ := r
    have := r3.size_mul h h
    rw [pow_two] at r1 r3 this
    exact ⟨_, r1, below_up hb r2 hb.size, r3, by omega⟩
  have HML : Hid (∀ (t : ByteArray) (q : Nat) (W : World), Below w.heap.size w W → TxtOf (numV a ^ q) t → t.size ≤ 600 → Calls Tryd.prog 38 #[.string t, .string a] W fun e w' => ∃ u, e = .returned (.string u) ∧ Below w.heap.size w w' ∧ TxtOf (numV a ^ (q + 1)) u ∧ u.size ≤ 1048576) := Lib.hid fun t q W hb h hs => (productText_c t a W (ht.below hb) h ha.txt hs (by omega)).mono fun e w' r => by
    obtain ⟨r1, r2, r3⟩ := r
    have := r3.size_mul h ha.txt
    rw [← Int.pow_succ] at r1 r3 this
    exact ⟨_, r1, below_up hb r2 hb.size, r3, by omega⟩
  have HN0 : Hid (0 ≤ numV a) := Lib.hid (ha.txt.small HSA.2).1
  have HYES : Hid (∀ s, s.size ≤ 300 → TxtOf (numV a ^ E) s → mPowText0 a E = s ∧ mPowText1 a E = true) := Lib.hid fun s hs h => pow_yes ⟨ha, by omega, by rw [Int.toNat_natCast]; exact (h.small hs).2⟩ (by rw [Int.toNat_natCast]; exact h)
  have HNO : Hid (∀ s (k : Nat), k ≤ E → 300 < s.size → TxtOf (numV a ^ k) s → mPowText0 a E = ⟨#[]⟩ ∧ mPowText1 a E = false) := Lib.hid fun s k hk hs h => pow_no fun hp => by
    have h2 := hp.2.2
    rw [Int.toNat_natCast] at h2
    have h3 := h.large hs
    cases k with
    | zero =>
      have h4 : numV a ^ 0 = 1 := Int.pow_zero _
      rw [h4] at h3
      have h5 := (txt_one.small (by decide)).2
      omega
    | succ k => exact pow_large HN0.out hk h3 h2
  clear ha ht
  generalize mPowText0 a E = R0 at *
  generalize mPowText1 a E = R1 at *
  generalize Lib.bitLen E = L at *
  have u1 : IntKind.u64.wrap (E : Int) = (E : Int) := IntWalk.u64_in _ (by omega)
  go_enter Tryd.func12, Tryd.ntmps12
  go_wp2_with fail
  refine G1.mono ?_
  rintro e w' ⟨rfl, rfl⟩
  go_wp2_with fail
  refine HBL.out.mono ?_
  rintro e w' ⟨rfl, rfl⟩
  clear G1 HBL
  go_wp2_with fail
  go_loopw [6, 7] (fun s i wr => ∃ (j : Nat) (t : ByteArray), i = .int .i64 ((j : Int) - 1) ∧ s = .string t ∧ j ≤ L ∧ t.size ≤ 300 ∧ Hid (TxtOf (numV a ^ (E / 2 ^ j)) t) ∧ Below w.heap.size w wr) (fun _ i _ => (intOf i + 1).toNat)
  case atStart => exact ⟨L, ⟨#[49]⟩, rfl, rfl, Nat.le_refl _, by decide, Lib.hid (by rw [Nat.div_eq_of_lt hL1, Int.pow_zero]; exact txt_one), Below.refl _ _⟩
  case round =>
    obtain ⟨j, t, rfl, rfl, hj, hts, HTX, hnx⟩ := hrel
    by_cases h1 : j = 0
    · subst h1
      have HT0 : Hid (TxtOf (numV a ^ E) t) := Lib.hid (by have := HTX.out; rwa [Nat.pow_zero, Nat.div_one] at this)
      have d1 : decide ((0 : Int) ≤ ((0 : Nat) : Int) - 1) = false := decide_eq_false (by omega)
      clear HTX
      go_wp2
      go_ret2
      exact text_b (HYES.out t hts HT0.out) hnx
    · obtain ⟨p, rfl⟩ : ∃ p, j = p + 1 := ⟨j - 1, by omega⟩
      have ep : (((p + 1 : Nat) : Int) - 1) = (p : Int) := by omega
      rw [ep]
      have d1 : decide ((0 : Int) ≤ (p : Int)) = true := decide_eq_true (by omega)
      have HS1 := Lib.hid (HSQ.out t _ wr hnx HTX.out hts)
      go_wp2_with fail
      refine HS1.out.mono ?_
      rintro e w2 ⟨u, rfl, b2, hU, hus⟩
      have HU := Lib.hid hU
      clear hU HS1 HTX hnx
      have hle : E / 2 ^ p ≤ E := Nat.div_le_self _ _
      have HME : Hid ((p : Int) - 1 = ((p : Nat) : Int) - 1) := Lib.hid rfl
      by_cases hbit : (E / 2 ^ p) % 2 = 1
      · have db : (((E : Int) / 2 ^ p).tmod 2 == 1) = true := by rw [bit_int]; exact decide_eq_true hbit
        have HQ : Hid (2 * (E / 2 ^ (p + 1)) + 1 = E / 2 ^ p) := Lib.hid (by have := bit_step E p; omega)
        have HS2 : Hid (Calls Tryd.prog 38 #[.string u, .string a] w2 fun e w' => ∃ u, e = .returned (.string u) ∧ Below w.heap.size w w' ∧ TxtOf (numV a ^ (E / 2 ^ p)) u ∧ u.size ≤ 1048576) := Lib.hid (by
          have := HML.out u _ w2 b2 HU.out hus
          rwa [HQ.out] at this)
        clear hbit HQ HU
        go_wp2_with fail
        refine HS2.out.mono ?_
        rintro e w3 ⟨v, rfl, b3, hV, hvs⟩
        have HV := Lib.hid hV
        clear hV HS2 b2
        by_cases h3 : 300 < v.size
        · have d3 : decide ((300 : Int) < v.size) = true := decide_eq_true (by omega)
          have HR := Lib.hid (HNO.out v _ hle h3 HV.out)
          clear h3
          go_wp2
          go_ret2
          exact text_b HR.out b3
        · have d3 : decide ((300 : Int) < v.size) = false := decide_eq_false (by omega)
          have v3 : v.size ≤ 300 := by omega
          clear h3
          go_wp2
          go_roundw
          case rel => exact ⟨p, v, rfl, rfl, by omega, v3, HV, b3⟩
          case measure => simp [intOf]
      · have db : (((E : Int) / 2 ^ p).tmod 2 == 1) = false := by rw [bit_int]; exact decide_eq_false hbit
        have HQ : Hid (2 * (E / 2 ^ (p + 1)) = E / 2 ^ p) := Lib.hid (by have := bit_step E p; omega)
        rw [HQ.out] at HU
        clear hbit HQ
        by_cases h3 : 300 < u.size
        · have d3 : decide ((300 : Int) < u.size) = true := decide_eq_true (by omega)
          have HR := Lib.hid (HNO.out u _ hle h3 HU.out)
          clear h3
          go_wp2
          go_ret2
          exact text_b HR.out b2
        · have d3 : decide ((300 : Int) < u.size) = false := decide_eq_false (by omega)
          have v3 : u.size ≤ 300 := by omega
          clear h3
          go_wp2
          go_roundw
          case rel => exact ⟨p, u, rfl, rfl, by omega, v3, HU, b2⟩
          case measure => simp [intOf]
theorem iPowText (a : ByteArray) (e : Int) (w : World) (hna : a.size ≤ 1048576) (ht : Tab w) :
    Calls Tryd.prog 12 #[.string a, .int .i64 e] w (TextB w (mPowText0 a e) (mPowText1 a e)) := by
  have G1 := iDigitsOk a w hna
  by_cases ha : DigOk a
  · by_cases he : 0 ≤ e ∧ e ≤ 1000
    · obtain ⟨E, rfl⟩ : ∃ E : Nat, e = E := ⟨e.toNat, by omega⟩
      exact iPowText_on a E w ha (by omega) ht
    · rw [dig_iff.2 ha] at G1
      have HR := Lib.hid (pow_no (a := a) (e := e) fun h => he h.2.1)
      by_cases h0 : e < 0
      · have d0 : decide (e < 0) = true := decide_eq_true h0
        clear ha he hna h0
        go_enter Tryd.func12, Tryd.ntmps12
        go_wp2_with fail
        refine G1.mono ?_
        rintro e w' ⟨rfl, rfl⟩
        go_wp2
        go_ret2
        exact text_b HR.out (Below.refl _ _)
      · have d0 : decide (e < 0) = false := decide_eq_false h0
        have d1 : decide (1000 < e) = true := decide_eq_true (by omega)
        clear ha he hna h0
        go_enter Tryd.func12, Tryd.ntmps12
        go_wp2_with fail
        refine G1.mono ?_
        rintro e w' ⟨rfl, rfl⟩
        go_wp2
        go_ret2
        exact text_b HR.out (Below.refl _ _)
  · rw [dig_not.2 ha] at G1
    have HR := Lib.hid (pow_no (a := a) (e := e) fun h => ha h.1)
    clear ha hna
    go_enter Tryd.func12, Tryd.ntmps12
    go_wp2_with fail
    refine G1.mono ?_
    rintro e w' ⟨rfl, rfl⟩
    go_wp2
    go_ret2
    exact text_b HR.out (Below.refl _ _)
end Go.Proofs.YtaapmpjkcddababDoor
