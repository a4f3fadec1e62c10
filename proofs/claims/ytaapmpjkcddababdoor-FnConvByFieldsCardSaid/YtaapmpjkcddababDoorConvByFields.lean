/-
  Each element of ConvExact is the Centered value of the products in the fields 6 and 7, for lists of at most 190 integers, and its absolute value is at most Bound, for every code that the law draws from; no condition but the card's own (the table of fields holds what its initialiser lays).
-/
import Derived.Test.YtaapmpjkcddababDoorJ3
import Derived.ChangeOld
import Derived.Below
import Derived.Carry
namespace Go.Proofs.YtaapmpjkcddababDoor
open Go.ChangeShapes Go.WideShapes Go.ChangeAt Go.RowKit
namespace ConvByFields
def TR (f : Int) (l : List Int) : List Int := trimL f l.length (lf l)
theorem lf_TR (f : Int) (l : List Int) (j : Nat) : lf (TR f l) j = RS (lf l j) (P f) := by
  unfold TR trimL
  rw [lf_cutL]
  by_cases h : j < l.length
  · rw [if_pos h]
  · rw [if_neg h, lf_out l (by omega)]
    simp [RS]
theorem TR_len (f : Int) (l : List Int) : (TR f l).length ≤ l.length := by
  unfold TR trimL
  rw [cutL_len]
  exact cutN_le _ _
theorem TR_ok {f : Int} (h0 : 0 ≤ f) (h8 : f ≤ 8) {l : List Int} (hl : l.length ≤ 190) : PolOk f (TR f l) := ⟨⟨h0, h8⟩, by have := TR_len f l; omega, pol_trimL h0 h8 _ _⟩
def XL (f : Int) (l m : List Int) : List Int := mulL f (TR f l) (TR f m)
theorem lf_XL (f : Int) (l m : List Int) (k : Nat) : lf (XL f l m) k = RS (cv k (lf l) (lf m)) (P f) := by
  unfold XL
  rw [lf_mulL]
  unfold RS
  exact cv_mod k (fun j => by rw [lf_TR]; unfold RS; exact Int.emod_emod_of_dvd _ (Int.dvd_refl _)) (fun j => by rw [lf_TR]; unfold RS; exact Int.emod_emod_of_dvd _ (Int.dvd_refl _))
theorem XL_len {f : Int} {l m : List Int} (hl : l.length ≤ 190) (hm : m.length ≤ 190) : (XL f l m).length ≤ 1048576 := by
  have h1 := TR_len f l
  have h2 := TR_len f m
  have h3 := mulL_le f (TR f l) (TR f m)
  unfold XL
  omega
theorem conv_at {l m : List Int} (hl : TermsOk l) (hm : TermsOk m) (nl : l.length ≠ 0) (nm : m.length ≠ 0) {k : Nat} (hk : k < (ceL l m).length) :
    mCentered0 (lf (XL 6 l m) k) (lf (XL 7 l m) k) = lf (ceL l m) k ∧ mCentered1 (lf (XL 6 l m) k) (lf (XL 7 l m) k) = true ∧ -(mBound l.length m.length) ≤ lf (ceL l m) k ∧ lf (ceL l m) k ≤ mBound l.length m.length := by
  have e : ceL l m = tab (l.length + m.length - 1) fun i => cv i (lf l) (lf m) := by unfold ceL; rw [if_neg (by omega)]
  have h1 := hl.1
  have h2 := hm.1
  have hb := cv_bound_min (n := l.length) (m := m.length) (terms_all hl) (terms_all hm) (fun j hj => lf_out l hj) (fun j hj => lf_out m hj) k
  have eB : mBound l.length m.length = 1000000000000 * ((min l.length m.length : Nat) : Int) := by
    unfold mBound
    rw [if_pos (by omega)]
    have : min (l.length : Int) m.length = ((min l.length m.length : Nat) : Int) := by omega
    rw [this]
    omega
  rw [e] at hk ⊢
  rw [tab_len] at hk
  rw [lf_tab, if_pos hk, lf_XL, lf_XL, eB]
  have hc := centered_split (x := cv k (lf l) (lf m)) (by unfold MM; omega) (by unfold MM; omega)
  exact ⟨hc.1, hc.2.1, hb.1, hb.2⟩
theorem bound_le {n m : Nat} (hn : n ≤ 190) (hm : m ≤ 190) (n0 : n ≠ 0) (m0 : m ≠ 0) : 0 ≤ mBound n m ∧ mBound n m ≤ 200000000000000 := by
  unfold mBound
  rw [if_pos (by omega)]
  omega
set_option maxRecDepth 100000 in
set_option maxHeartbeats 6400000 in
theorem walk (a0 : Option Addr) (len0 cap0 : Nat) (z0 : List Int) (w : World) (hrow : IsRow .u8 w a0 len0 cap0 z0) (ht : Tab w) : Calls Tryd.prog 6 #[.slice a0 len0 cap0] w fun e w' => e = .returned (.bool true) ∧ Below w.heap.size w w' := by
  by_cases hlb : 1048576 < len0
  · go_enter Tryd.func6, Tryd.ntmps6
    go_wp2_with fail
    refine (big_yes a0 len0 cap0 w hlb).mono ?_
    rintro e w' ⟨rfl, rfl⟩
    go_wp2
    go_ret
    exact ⟨rfl, Below.refl _ _⟩
  have hl2 : len0 ≤ 1048576 := by omega
  have hcode := code_of_row hrow (by omega)
  clear hlb hrow
  go_enter Tryd.func6, Tryd.ntmps6
  go_wp2_with fail
  refine (big_no a0 len0 cap0 w hl2).mono ?_
  rintro e w' ⟨rfl, rfl⟩
  go_wp2_with fail
  refine (drawConv_c a0 len0 cap0 w hl2 hcode).mono ?_
  rintro e w3 ⟨a, l, cap, a2, m, cap2, rfl, hl9, hm9, hs, hs2, b3⟩
  clear hcode
  have SC0 := sConvExact a l cap a2 m cap2 w3 (by omega) (by omega) hs hs2
  by_cases hok : ¬ (TermsOk l ∧ TermsOk m)
  · rw [show mConvExact1 l m = false by unfold mConvExact1; simp only [hok, decide_false]] at SC0
    clear hs hs2 hok ht
    go_wp2_with fail
    refine SC0.mono ?_
    rintro e w4 ⟨s4, k4, rfl, _, b4⟩
    have c4 := below_up b3 b4 b3.size
    clear b3 b4 SC0
    go_wp2
    go_ret
    exact ⟨rfl, c4⟩
  obtain ⟨hl, hm⟩ := Classical.byContradiction fun h => hok h
  clear hok
  rw [show mConvExact1 l m = true by unfold mConvExact1; simp [hl, hm]] at SC0
  by_cases g1 : 190 < l.length
  · have da : decide ((190 : Int) < l.length) = true := decide_eq_true (by omega)
    clear hs hs2 hl hm ht
    go_wp2_with fail
    refine SC0.mono ?_
    rintro e w4 ⟨s4, k4, rfl, _, b4⟩
    have c4 := below_up b3 b4 b3.size
    clear b3 b4 SC0
    go_wp2
    go_ret
    exact ⟨rfl, c4⟩
  have da : decide ((190 : Int) < l.length) = false := decide_eq_false (by omega)
  by_cases g2 : 190 < m.length
  · have db : decide ((190 : Int) < m.length) = true := decide_eq_true (by omega)
    clear hs hs2 hl hm ht
    go_wp2_with fail
    refine SC0.mono ?_
    rintro e w4 ⟨s4, k4, rfl, _, b4⟩
    have c4 := below_up b3 b4 b3.size
    clear b3 b4 SC0
    go_wp2
    go_ret
    exact ⟨rfl, c4⟩
  have db : decide ((190 : Int) < m.length) = false := decide_eq_false (by omega)
  by_cases g3 : l.length = 0
  · have za : ((l.length : Int) == 0) = true := by rw [g3]; rfl
    clear hs hs2 hl hm ht g3
    go_wp2_with fail
    refine SC0.mono ?_
    rintro e w4 ⟨s4, k4, rfl, _, b4⟩
    have c4 := below_up b3 b4 b3.size
    clear b3 b4 SC0
    go_wp2
    go_ret
    exact ⟨rfl, c4⟩
  have za : ((l.length : Int) == 0) = false := by rw [beq_eq_false_iff_ne]; omega
  by_cases g4 : m.length = 0
  · have zb : ((m.length : Int) == 0) = true := by rw [g4]; rfl
    clear hs hs2 hl hm ht g4 g3
    go_wp2_with fail
    refine SC0.mono ?_
    rintro e w4 ⟨s4, k4, rfl, _, b4⟩
    have c4 := below_up b3 b4 b3.size
    clear b3 b4 SC0
    go_wp2
    go_ret
    exact ⟨rfl, c4⟩
  have zb : ((m.length : Int) == 0) = false := by rw [beq_eq_false_iff_ne]; omega
  have l9 : l.length ≤ 190 := by omega
  have m9 : m.length ≤ 190 := by omega
  have nl := g3
  have nm := g4
  clear SC0 g1 g2 g3 g4
  have E0 : mConvExact0 l m = ceL l m := by unfold mConvExact0; rw [if_pos ⟨hl, hm⟩]
  have E1 : mConvExact1 l m = true := by unfold mConvExact1; simp [hl, hm]
  have SC : Hid (Calls Tryd.prog 20 #[.slice a l.length cap, .slice a2 m.length cap2] w3 (ListLB w3 (ceL l m) true)) := Lib.hid (by
    have := sConvExact a l cap a2 m cap2 w3 (by omega) (by omega) hs hs2
    rwa [E0, E1] at this)
  have CP1 : Hid (∀ W, Below w3.heap.size w3 W → Calls Tryd.prog 22 #[.slice a l.length cap] W (ListL W l)) := Lib.hid fun W hb => cp_l a l cap W (by omega) (hs.keep hb)
  have CP2 : Hid (∀ W, Below w3.heap.size w3 W → Calls Tryd.prog 22 #[.slice a2 m.length cap2] W (ListL W m)) := Lib.hid fun W hb => cp_l a2 m cap2 W (by omega) (hs2.keep hb)
  have IC : Hid (∀ x c y d W, Below w3.heap.size w3 W → Src W x l.length (lf l) → Src W y m.length (lf m) → Calls Tryd.prog 21 #[.slice x l.length c, .slice y m.length d] W (OwnLB W (ceL l m) true)) := Lib.hid fun x c y d W hb h1 h2 => by
    have := iConvExact x l c y m d W (by omega) (by omega) h1 h2 (ht.below (below_up b3 hb b3.size))
    rwa [E0, E1] at this
  have T1 : Hid (∀ f : Int, 0 ≤ f → f ≤ 8 → ∀ W, Below w3.heap.size w3 W → Calls Tryd.prog 24 #[.int .i64 f, .slice a l.length cap] W (ListL W (TR f l))) := Lib.hid fun f h0 h8 W hb => by
    have := sTrim f a l cap W (by omega) (hs.keep hb)
    rwa [show mTrim f l = TR f l by unfold mTrim TR; rw [if_pos ⟨⟨h0, h8⟩, by omega⟩]] at this
  have T2 : Hid (∀ f : Int, 0 ≤ f → f ≤ 8 → ∀ W, Below w3.heap.size w3 W → Calls Tryd.prog 24 #[.int .i64 f, .slice a2 m.length cap2] W (ListL W (TR f m))) := Lib.hid fun f h0 h8 W hb => by
    have := sTrim f a2 m cap2 W (by omega) (hs2.keep hb)
    rwa [show mTrim f m = TR f m by unfold mTrim TR; rw [if_pos ⟨⟨h0, h8⟩, by omega⟩]] at this
  have MP6 : Hid (∀ x c y d W, Below w3.heap.size w3 W → Src W x (TR 6 l).length (lf (TR 6 l)) → Src W y (TR 6 m).length (lf (TR 6 m)) → Calls Tryd.prog 23 #[.int .i64 6, .slice x (TR 6 l).length c, .slice y (TR 6 m).length d] W (OwnLB W (XL 6 l m) true)) := Lib.hid fun x c y d W hb h1 h2 => iMulPoly_on 6 x (TR 6 l) c y (TR 6 m) d W (by have := TR_len 6 l; omega) (by have := TR_len 6 m; omega) h1 h2 (ht.below (below_up b3 hb b3.size)) (TR_ok (by omega) (by omega) l9) (TR_ok (by omega) (by omega) m9) (by have := TR_len 6 l; have := TR_len 6 m; omega)
  have MP7 : Hid (∀ x c y d W, Below w3.heap.size w3 W → Src W x (TR 7 l).length (lf (TR 7 l)) → Src W y (TR 7 m).length (lf (TR 7 m)) → Calls Tryd.prog 23 #[.int .i64 7, .slice x (TR 7 l).length c, .slice y (TR 7 m).length d] W (OwnLB W (XL 7 l m) true)) := Lib.hid fun x c y d W hb h1 h2 => iMulPoly_on 7 x (TR 7 l) c y (TR 7 m) d W (by have := TR_len 7 l; omega) (by have := TR_len 7 m; omega) h1 h2 (ht.below (below_up b3 hb b3.size)) (TR_ok (by omega) (by omega) l9) (TR_ok (by omega) (by omega) m9) (by have := TR_len 7 l; have := TR_len 7 m; omega)
  have HCO : Hid (∀ k, k < (ceL l m).length → mCentered0 (lf (XL 6 l m) k) (lf (XL 7 l m) k) = lf (ceL l m) k ∧ mCentered1 (lf (XL 6 l m) k) (lf (XL 7 l m) k) = true ∧ -(mBound l.length m.length) ≤ lf (ceL l m) k ∧ lf (ceL l m) k ≤ mBound l.length m.length) := Lib.hid fun k hk => conv_at hl hm nl nm hk
  have HB0 := bound_le l9 m9 nl nm
  have HLN : Hid ((ceL l m).length = l.length + m.length - 1) := Lib.hid (by unfold ceL; rw [if_neg (by omega), tab_len])
  have HX6 : Hid ((XL 6 l m).length ≤ 1048576) := Lib.hid (XL_len l9 m9)
  have HX7 : Hid ((XL 7 l m).length ≤ 1048576) := Lib.hid (XL_len l9 m9)
  have HZ6 : Hid (∀ k, (XL 6 l m).length ≤ k → lf (XL 6 l m) k = 0) := Lib.hid fun k hk => lf_out _ hk
  have HZ7 : Hid (∀ k, (XL 7 l m).length ≤ k → lf (XL 7 l m) k = 0) := Lib.hid fun k hk => lf_out _ hk
  have HTB : Hid (∀ W, Below w3.heap.size w3 W → Tab W) := Lib.hid fun W hb => ht.below (below_up b3 hb b3.size)
  have BD := Lib.hid (fun W => iBound l.length m.length W)
  have HB3 := Lib.hid b3
  have zn : (((ceL l m).length : Int) != (l.length : Int) + m.length - 1) = false := by have := HLN.out; simp; omega
  clear hs hs2 hl hm ht E0 E1 nl nm
  generalize mBound l.length m.length = B at *
  generalize XL 6 l m = X6 at *
  generalize XL 7 l m = X7 at *
  generalize ceL l m = C at *
  clear b3
  go_wp2_with fail
  refine SC.out.mono ?_
  rintro e w4 ⟨s4, k4, rfl, _, b4⟩
  go_wp2_with fail
  refine (CP1.out w4 b4).mono ?_
  rintro e w5 ⟨x5, k5, rfl, r5, b5⟩
  have d5 := below_up b4 b5 b4.size
  clear b4 b5 SC
  go_wp2_with fail
  refine (CP2.out w5 d5).mono ?_
  rintro e w6 ⟨x6, k6, rfl, r6, b6⟩
  have d6 := below_up d5 b6 d5.size
  have r56 := r5.keep b6
  clear d5 b6 r5
  go_wp2_with fail
  refine (IC.out x5 k5 x6 k6 w6 d6 r56 r6).mono ?_
  rintro e w7 ⟨x7, k7, rfl, o7, b7⟩
  have d7 := below_up d6 b7 d6.size
  have S7 := Lib.hid o7.src
  clear d6 b7 r56 r6 o7 IC CP1 CP2
  go_wp2_with fail
  refine (T1.out 6 (by omega) (by omega) w7 d7).mono ?_
  rintro e w8 ⟨x8, k8, rfl, r8, b8⟩
  have d8 := below_up d7 b8 d7.size
  have S8 := Lib.hid (S7.out.keep b8)
  clear d7 b8 S7
  go_wp2_with fail
  refine (T2.out 6 (by omega) (by omega) w8 d8).mono ?_
  rintro e w9 ⟨x9, k9, rfl, r9, b9⟩
  have d9 := below_up d8 b9 d8.size
  have S9 := Lib.hid (S8.out.keep b9)
  have r89 := r8.keep b9
  clear d8 b9 S8 r8
  go_wp2_with fail
  refine (MP6.out x8 k8 x9 k9 w9 d9 r89 r9).mono ?_
  rintro e w10 ⟨x10, k10, rfl, o10, b10⟩
  have d10 := below_up d9 b10 d9.size
  have S10 := Lib.hid (S9.out.keep b10)
  have U10 := Lib.hid o10.src
  clear d9 b10 S9 r89 r9 o10
  go_wp2_with fail
  refine (T1.out 7 (by omega) (by omega) w10 d10).mono ?_
  rintro e w11 ⟨x11, k11, rfl, r11, b11⟩
  have d11 := below_up d10 b11 d10.size
  have S11 := Lib.hid (S10.out.keep b11)
  have U11 := Lib.hid (U10.out.keep b11)
  clear d10 b11 S10 U10
  go_wp2_with fail
  refine (T2.out 7 (by omega) (by omega) w11 d11).mono ?_
  rintro e w12 ⟨x12, k12, rfl, r12, b12⟩
  have d12 := below_up d11 b12 d11.size
  have S12 := Lib.hid (S11.out.keep b12)
  have U12 := Lib.hid (U11.out.keep b12)
  have r112 := r11.keep b12
  clear d11 b12 S11 U11 r11
  go_wp2_with fail
  refine (MP7.out x11 k11 x12 k12 w12 d12 r112 r12).mono ?_
  rintro e w13 ⟨x13, k13, rfl, o13, b13⟩
  have d13 := below_up d12 b13 d12.size
  have S13 := Lib.hid (S12.out.keep b13)
  have U13 := Lib.hid (U12.out.keep b13)
  have V13 := Lib.hid o13.src
  clear d12 b13 S12 U12 r112 r12 o13 MP6 MP7 T1 T2
  go_wp2_with fail
  refine (BD.out w13).mono ?_
  rintro e w' ⟨rfl, rfl⟩
  have l6 := HX6.out
  have l7 := HX7.out
  have hCN : C.length ≤ 380 := by have := HLN.out; omega
  clear HX6 HX7 HLN BD zn
  generalize lf X6 = F6 at *
  generalize lf X7 = F7 at *
  generalize lf C = Cf at *
  generalize X6.length = n6 at *
  generalize X7.length = n7 at *
  generalize C.length = N at *
  go_wp2_with fail
  go_loopw [14, 15, 16, 17, 18] (fun i _ _ _ _ wr => ∃ k : Nat, i = .int .i64 k ∧ k ≤ N ∧ Below w13.heap.size w13 wr) (fun i _ _ _ _ _ => N - (intOf i).toNat)
  case atStart => exact ⟨0, rfl, Nat.zero_le _, Below.refl _ _⟩
  case round =>
    obtain ⟨k, rfl, hk, hb⟩ := hrel
    have dw := below_up d13 hb d13.size
    by_cases h1 : k < N
    · have hd1 : decide ((k : Int) < N) = true := decide_eq_true (by omega)
      obtain ⟨bo, oo, rfl, blt, bc⟩ : ∃ b off, x7 = some ⟨b, off, none⟩ ∧ b < wr.heap.size ∧ ∀ j, j < N → wr.cell? ⟨b, off + j, none⟩ = some (.int .i64 (Cf j)) := by
        rcases S13.out.keep hb with h | h
        · omega
        · exact h
      have HCK := Lib.hid (HCO.out k h1)
      have y1 := HCK.out.2.2.1
      have y2 := HCK.out.2.2.2
      have hkN : (k : Int) < N := by omega
      have e1 : (Cf k != Cf k) = false := by simp
      have e2 : decide (B < Cf k) = false := decide_eq_false (by omega)
      have e3 : decide (Cf k < -B) = false := decide_eq_false (by omega)
      have HTW := Lib.hid (HTB.out wr dw)
      by_cases h6 : k < n6
      · by_cases h7 : k < n7
        · have f6 : decide ((k : Int) < n6) = true := decide_eq_true (by omega)
          obtain ⟨b6, o6, rfl, lt6, c6⟩ : ∃ b off, x10 = some ⟨b, off, none⟩ ∧ b < wr.heap.size ∧ ∀ j, j < n6 → wr.cell? ⟨b, off + j, none⟩ = some (.int .i64 (F6 j)) := by
            rcases U13.out.keep hb with h | h
            · omega
            · exact h
          have g6 := c6 k h6
          have k6n : (k : Int) < n6 := by omega
          clear c6
          have f7 : decide ((k : Int) < n7) = true := decide_eq_true (by omega)
          obtain ⟨b7, o7, rfl, lt7, c7⟩ : ∃ b off, x13 = some ⟨b, off, none⟩ ∧ b < wr.heap.size ∧ ∀ j, j < n7 → wr.cell? ⟨b, off + j, none⟩ = some (.int .i64 (F7 j)) := by
            rcases V13.out.keep hb with h | h
            · omega
            · exact h
          have g7 := c7 k h7
          have k7n : (k : Int) < n7 := by omega
          clear c7
          have g0 := bc k h1
          clear bc
          go_wp2_with fail
          refine (iCentered (F6 k) (F7 k) wr HTW.out).mono ?_
          rintro e w14 ⟨rfl, b14⟩
          have hb2 := below_up hb b14 hb.size
          have g14 : w14.cell? ⟨bo, oo + k, none⟩ = some (.int .i64 (Cf k)) := (b14.cell (p := ⟨bo, oo + k, none⟩) blt).trans g0
          rw [HCK.out.1, HCK.out.2.1]
          clear hb b14 g0 HCK g6 g7
          go_wp2
          go_roundw
          case rel => exact ⟨k + 1, by go_num, by omega, hb2⟩
          case measure => simp [intOf]; omega
        · have f6 : decide ((k : Int) < n6) = true := decide_eq_true (by omega)
          obtain ⟨b6, o6, rfl, lt6, c6⟩ : ∃ b off, x10 = some ⟨b, off, none⟩ ∧ b < wr.heap.size ∧ ∀ j, j < n6 → wr.cell? ⟨b, off + j, none⟩ = some (.int .i64 (F6 j)) := by
            rcases U13.out.keep hb with h | h
            · omega
            · exact h
          have g6 := c6 k h6
          have k6n : (k : Int) < n6 := by omega
          clear c6
          have f7 : decide ((k : Int) < n7) = false := decide_eq_false (by omega)
          have z7 := HZ7.out k (by omega)
          rw [z7] at HCK
          have g0 := bc k h1
          clear bc
          go_wp2_with fail
          refine (iCentered (F6 k) 0 wr HTW.out).mono ?_
          rintro e w14 ⟨rfl, b14⟩
          have hb2 := below_up hb b14 hb.size
          have g14 : w14.cell? ⟨bo, oo + k, none⟩ = some (.int .i64 (Cf k)) := (b14.cell (p := ⟨bo, oo + k, none⟩) blt).trans g0
          rw [HCK.out.1, HCK.out.2.1]
          clear hb b14 g0 HCK g6 z7
          go_wp2
          go_roundw
          case rel => exact ⟨k + 1, by go_num, by omega, hb2⟩
          case measure => simp [intOf]; omega
      · by_cases h7 : k < n7
        · have f6 : decide ((k : Int) < n6) = false := decide_eq_false (by omega)
          have z6 := HZ6.out k (by omega)
          rw [z6] at HCK
          have f7 : decide ((k : Int) < n7) = true := decide_eq_true (by omega)
          obtain ⟨b7, o7, rfl, lt7, c7⟩ : ∃ b off, x13 = some ⟨b, off, none⟩ ∧ b < wr.heap.size ∧ ∀ j, j < n7 → wr.cell? ⟨b, off + j, none⟩ = some (.int .i64 (F7 j)) := by
            rcases V13.out.keep hb with h | h
            · omega
            · exact h
          have g7 := c7 k h7
          have k7n : (k : Int) < n7 := by omega
          clear c7
          have g0 := bc k h1
          clear bc
          go_wp2_with fail
          refine (iCentered 0 (F7 k) wr HTW.out).mono ?_
          rintro e w14 ⟨rfl, b14⟩
          have hb2 := below_up hb b14 hb.size
          have g14 : w14.cell? ⟨bo, oo + k, none⟩ = some (.int .i64 (Cf k)) := (b14.cell (p := ⟨bo, oo + k, none⟩) blt).trans g0
          rw [HCK.out.1, HCK.out.2.1]
          clear hb b14 g0 HCK z6 g7
          go_wp2
          go_roundw
          case rel => exact ⟨k + 1, by go_num, by omega, hb2⟩
          case measure => simp [intOf]; omega
        · have f6 : decide ((k : Int) < n6) = false := decide_eq_false (by omega)
          have z6 := HZ6.out k (by omega)
          rw [z6] at HCK
          have f7 : decide ((k : Int) < n7) = false := decide_eq_false (by omega)
          have z7 := HZ7.out k (by omega)
          rw [z7] at HCK
          have g0 := bc k h1
          clear bc
          go_wp2_with fail
          refine (iCentered 0 0 wr HTW.out).mono ?_
          rintro e w14 ⟨rfl, b14⟩
          have hb2 := below_up hb b14 hb.size
          have g14 : w14.cell? ⟨bo, oo + k, none⟩ = some (.int .i64 (Cf k)) := (b14.cell (p := ⟨bo, oo + k, none⟩) blt).trans g0
          rw [HCK.out.1, HCK.out.2.1]
          clear hb b14 g0 HCK z6 z7
          go_wp2
          go_roundw
          case rel => exact ⟨k + 1, by go_num, by omega, hb2⟩
          case measure => simp [intOf]; omega
    · have hd1 : decide ((k : Int) < N) = false := decide_eq_false (by omega)
      have HF := Lib.hid (below_up HB3.out dw HB3.out.size)
      go_wp2
      go_ret
      exact ⟨rfl, HF.out⟩
theorem contract (H : Type) (enc : TypeId × Value → H) (W : World) (base : Nat) (args : Array Value) (ds gs : List (DataW H)) (before : List MemPlace)
    (hval : ∀ (j : Nat) t v, Tryd.f6.params[j]? = some t → args[j]? = some v → Value.okWide Tryd.prog W .any base t v)
    (hW : DataW.Whole enc Tryd.prog Tryd.f6.params.toList Rows.fnConvByFieldsSpec.vars false W args.toList ds gs before) (hL : laidMetH Tryd.prog Rows.fnConvByFieldsRow.laid W) :
    Calls Tryd.prog 6 args W fun e W' => ∃ v, e = .returned v ∧ Rows.fnConvByFieldsSpec.post enc Tryd.prog Tryd.f6 false true false false W args v W' := by
  have hvar := table_var hL
  have hW' := hW
  obtain ⟨p, q, hA0, hV, rfl, hfz, hnd⟩ := hW
  have hA : DataW.TrodAll enc Tryd.prog W 0 (fun _ => true) true Tryd.f6.params.toList args.toList ds p := hA0
  rw [Tryd.params6] at hA hval
  obtain ⟨v0, vs0, d0, ds0, p0, q0, hargs, rfl, rfl, h0, r0⟩ := trodAll_cons hA
  obtain ⟨rfl, rfl, rfl⟩ := trodAll_nil r0
  obtain rfl : args = #[v0] := by cases args; simp_all
  obtain ⟨rfl, rfl⟩ := DataW.TrodVars.unique hV (tab_vars enc (fun _ => true) hvar)
  obtain ⟨a0, len0, cap0, rfl⟩ := okWide_slice Tryd.underlying27 (hval 0 27 v0 rfl rfl)
  have k0 := h0
  have lt0 : ∀ x ∈ p0, x.block < W.heap.size := by obtain ⟨m, hm⟩ := k0; exact DataW.trod_lt m _ _ _ hm
  obtain ⟨z0, w0⟩ : ∃ zs, IsRow .u8 W a0 len0 cap0 zs := by
    obtain ⟨fuel, hf⟩ := h0
    rcases open_ints Tryd.underlying27 Tryd.underlying5 (by kernel_rfl) hf with ⟨hcs, _⟩ | ⟨x, l, c, zs, hcs, _, hl, hm, hz, _, hcell, hwz⟩
    · simp [Value.cells] at hcs
      obtain ⟨rfl, rfl, rfl⟩ := hcs
      exact ⟨[], .inl ⟨rfl, rfl, rfl, rfl⟩⟩
    · simp [Value.cells] at hcs
      obtain ⟨rfl, rfl, rfl⟩ := hcs
      exact ⟨zs, .inr ⟨_, rfl, hl, hm, by simpa using hz, hcell, hwz⟩⟩
  clear hA0
  refine (walk a0 len0 cap0 z0 W w0 (tab_of hvar)).mono fun e W' ⟨he, bel⟩ => ?_
  subst he
  exact ⟨_, rfl, _, _, _, [], _, _, hW', trodAll_mk1 (shut_bool Tryd.underlying4 _), (trodAll_cons_mk (Below.trod f_laidOut (by kernel_rfl) (of_decide_eq_true (by kernel_rfl)) k0 bel lt0) trodAll_mk0), tab_vars enc _ (below_var bel hvar), bel.frame _, fun h => by cases h⟩
theorem laid_met (os : Os) : laidMet Tryd.prog Rows.fnConvByFieldsRow.laid ((laidWorld os).forCall (fun _ _ => 0) ⟨#[], #[.slice none 0 0], []⟩).memory :=
  laidMet_of_run' 8 (by kernel_rfl) (by kernel_rfl)
theorem reads (os : Os) {H : Type} (enc : TypeId × Value → H) : ∃ places, DataW.whole enc Tryd.prog ((laidWorld os).forCall (fun _ _ => 0) ⟨#[], #[.slice none 0 0], []⟩).memory Tryd.f6.params.toList Rows.fnConvByFieldsSpec.vars false #[Value.slice none 0 0].toList 8 = some ([.nil], [Rows.laid_loop_example_g00710_impl_fieldTable], places) :=
  ⟨MemPlace.row ⟨0, 0, none⟩ 27, by kernel_rfl⟩
set_option maxRecDepth 100000 in
theorem lifted (os : Os) (started : os.Started) (H : Type) (enc : TypeId × Value → H) (F : Stop.Interp) :
    ReturnsInHanded {} Tryd.checked os 6 .any ((OpenSpec.ofChange Rows.fnConvByFieldsSpec).preRow enc Tryd.prog Tryd.f6 Rows.fnConvByFieldsRow.domain false Rows.fnConvByFieldsRow.laid) (((OpenSpec.ofChange Rows.fnConvByFieldsSpec).at F).post enc Tryd.prog Tryd.f6 false true false false) := by
  obtain ⟨places, hx⟩ := reads os enc
  refine returnsInHanded_of_row (C := Tryd.checked) (s := OpenSpec.ofChange Rows.fnConvByFieldsSpec) own started (by kernel_rfl) Tryd.func6
    (witness_row_at (enc := enc) (C := Tryd.checked) false (laidWorld os) #[.slice none 0 0] rfl (by kernel_rfl) (by kernel_rfl) (by kernel_rfl)
      (OpenSpec.preRow_of_cond 8 hx (by kernel_rfl) (fun k hk => by cases hk) (by kernel_rfl) (laid_met os))) ?_
  intro W base args ds gs before hval hW _ _ _ hL _ _
  exact contract H enc W base args ds gs before hval hW hL
theorem closed : joinedFacts Tryd.prog 6 Tryd.f6 (OpenSpec.ofChange Rows.fnConvByFieldsSpec).bare Rows.fnConvByFieldsRow = true := by
  unfold joinedFacts
  exact both (both (both (both (both (both (both (both (both (both (both (both (both (both (both (both (both (both (both (both (both (both (both (both (both (both (both (both (both (both (both (by as_aux_lemma => kernel_rfl) f_laidOut) f_mapsRowed) (by as_aux_lemma => kernel_rfl)) (by as_aux_lemma => kernel_rfl)) (by as_aux_lemma => kernel_rfl)) f_stops) (by as_aux_lemma => kernel_rfl)) f_knobs) (by as_aux_lemma => kernel_rfl)) (by as_aux_lemma => kernel_rfl)) (by as_aux_lemma => kernel_rfl)) (by as_aux_lemma => kernel_rfl)) (by as_aux_lemma => kernel_rfl)) (by as_aux_lemma => kernel_rfl)) (by as_aux_lemma => kernel_rfl)) (by as_aux_lemma => kernel_rfl)) (by as_aux_lemma => kernel_rfl)) (by as_aux_lemma => kernel_rfl)) (by as_aux_lemma => kernel_rfl)) (by as_aux_lemma => kernel_rfl)) (by as_aux_lemma => kernel_rfl)) f_keys) (by as_aux_lemma => kernel_rfl)) f_heard) f_enter) f_lifts) f_make) (by as_aux_lemma => kernel_rfl)) (by as_aux_lemma => kernel_rfl)) (by as_aux_lemma => kernel_rfl)) (by as_aux_lemma => kernel_rfl)
theorem said : Rows.FnConvByFieldsSaid :=
  OpenClaim.holds_of_cond 6 Tryd.f6 rfl rfl rfl rfl rfl rfl rfl ⟨rfl, rfl, rfl, rfl, rfl⟩ rfl rfl rfl rfl rfl (by as_aux_lemma => kernel_rfl) Tryd.func6 closed
    (of_decide_eq_true (by as_aux_lemma => kernel_rfl)) (by unfold Func.isWrapper; rw [if_neg (by decide +kernel)]; exact ⟨rfl, rfl⟩)
    (fun os started H enc _ F => by rw [OpenClaim.pre_eq_preRow]; exact lifted os started H enc F)
theorem plain (f : FuncId) (fn : Func) (hf : Tryd.pinned.checked.prog.funcNamed "loop.example/g00710/laws.FnConvByFields" = some f) (hfn : Tryd.pinned.checked.prog.funcs[f]? = some fn) :
    false = Tryd.pinned.checked.prog.looks [] ∧ ∀ (j : Nat) t, fn.params[j]? = some t → Tryd.pinned.checked.prog.wantsStandIn t = false := by
  obtain rfl : f = 6 := Option.some.inj ((show Tryd.prog.funcNamed "loop.example/g00710/laws.FnConvByFields" = some 6 by kernel_rfl).symm.trans hf) |>.symm
  obtain rfl : fn = Tryd.f6 := (Option.some.inj (Tryd.func6.symm.trans hfn)).symm
  refine ⟨f_looks, fun j t ht => ?_⟩
  rw [Tryd.params6] at ht
  obtain rfl : t = 27 := by simpa using Array.mem_of_getElem? ht
  exact (show Tryd.prog.wantsStandIn 27 = false by kernel_rfl)
end ConvByFields
theorem fnConvByFields_card : Rows.FnConvByFieldsCardSaid :=
  Claim7.holds_tied_plain_at .later [] _ _ _ _ ConvByFields.said (fun _ h => by cases h) (by as_aux_lemma => kernel_rfl) (fun _ h => by cases h) fnConvByFields_row_tie rfl ⟨rfl, rfl⟩ f_main rfl ConvByFields.plain (by as_aux_lemma => kernel_rfl)
end Go.Proofs.YtaapmpjkcddababDoor
