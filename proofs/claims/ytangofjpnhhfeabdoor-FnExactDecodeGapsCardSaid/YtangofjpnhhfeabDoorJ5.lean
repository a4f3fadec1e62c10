/-
  Texts of the proofs of this seat, joined (part 5).
-/
import Derived.Deep.CutBlock
import Derived.Deep.CutRange
import Derived.Outline
import Derived.Deep.RegionHeld3
import Derived.Test.YtangofjpnhhfeabDoorJ4
namespace Go.Proofs.YtangofjpnhhfeabDoor
open Go.RowKit
/-- A list that lies below a bound, in a block other than the cursor's. -/
def XM (S g : Nat) (W : World) (a : Option Addr) (l : List Int) (cap : Nat) : Prop := l.length ≤ cap ∧ (l.length = 0 ∨ ∃ b off, a = some ⟨b, off, none⟩ ∧ b ≠ g ∧ b < S ∧ b < W.heap.size ∧ ∀ j, j < l.length → W.cell? ⟨b, off + j, none⟩ = some (.int .i64 (lf l j)))
theorem XM.src {S g : Nat} {W : World} {a : Option Addr} {l : List Int} {cap : Nat} (h : XM S g W a l cap) : SrcC W a l.length cap (lf l) := by
  refine ⟨h.1, ?_⟩
  rcases h.2 with h | ⟨b, off, h1, _, _, h2, h3⟩
  · exact .inl h
  · exact .inr ⟨b, off, h1, h2, h3⟩
theorem XM.grown {S g : Nat} {W W' : World} {a : Option Addr} {l : List Int} {cap : Nat} (h : XM S g W a l cap) (hg : W.grownBy W' (some g)) : XM S g W' a l cap := by
  refine ⟨h.1, h.2.imp id ?_⟩
  rintro ⟨b, off, h1, hne, hS, h2, h3⟩
  exact ⟨b, off, h1, hne, hS, Nat.lt_of_lt_of_le h2 hg.size, fun j hj => hg.cell (h3 j hj) (fun e => by injection e with e; exact hne e)⟩
theorem XM.row {S g : Nat} {W W' : World} {a : Option Addr} {l : List Int} {cap : Nat} {row : Option Nat} (h : XM S g W a l cap) (hg : W.grownBy W' row) (hr : ∀ k, row = some k → S ≤ k) : XM S g W' a l cap := by
  refine ⟨h.1, h.2.imp id ?_⟩
  rintro ⟨b, off, h1, hne, hS, h2, h3⟩
  exact ⟨b, off, h1, hne, hS, Nat.lt_of_lt_of_le h2 hg.size, fun j hj => hg.cell (h3 j hj) (fun e => by have := hr b e.symm; omega)⟩
theorem XM.mono {S S' g : Nat} {W : World} {a : Option Addr} {l : List Int} {cap : Nat} (h : XM S g W a l cap) (hS : S ≤ S') : XM S' g W a l cap := by
  refine ⟨h.1, h.2.imp id ?_⟩
  rintro ⟨b, off, h1, hne, hs, h2, h3⟩
  exact ⟨b, off, h1, hne, by omega, h2, h3⟩
theorem XM.of {B g : Nat} {W : World} {a : Option Addr} {l : List Int} {cap : Nat} (h : WrG W B g a l cap) : XM W.heap.size g W a l cap := by
  refine ⟨wrg_cap h, ?_⟩
  rcases h with h | ⟨g2, h1, hne, _, h3⟩
  · exact .inl h
  · exact .inr ⟨g2, 0, h1, hne, h3.lt, h3.lt, fun j hj => by rw [Nat.zero_add]; exact h3.cell hj⟩
theorem XM.ofRow {B g : Nat} {W : World} {v : Value} {n : Nat} {F : Nat → Int} (h : W.ownsRow B 3 1 v n (xsF F n)) (hB : g < B) : ∃ a cap, v = .slice a (tab n F).length cap ∧ XM W.heap.size g W a (tab n F) cap := by
  obtain ⟨a, cap, hv, hc, hs⟩ := SrcO.of (owns_to_tab h) hB
  refine ⟨a, cap, hv, hc, hs.imp id ?_⟩
  rintro ⟨b, off, e, hne, hlt, hcell⟩
  exact ⟨b, off, e, hne, hlt, hlt, hcell⟩
theorem results_tmp5 {fn : Func} {t u v x y : Tmp} (h : fn.results = #[.tmp t, .tmp u, .tmp v, .tmp x, .tmp y]) (tmps : Array Value) (P : Program) (w : World) :
    (results fn tmps).run P w = .ok (.tuple #[tmps.getD t undef, tmps.getD u undef, tmps.getD v undef, tmps.getD x undef, tmps.getD y undef]) w := by
  simp [results, h]
/-- A word that may be written, or none. -/
theorem enc_any (f : Int) (a : Option Addr) (xs : List Int) (cap : Nat) (a2 : Option Addr) (m : List Int) (cap2 : Nat) (w : World) (hn : xs.length ≤ 1048576) (hn2 : m.length ≤ 1048576) (hs : SrcC w a xs.length cap (lf xs)) (hs2 : SrcC w a2 m.length cap2 (lf m)) : Calls Tryd.prog 38 #[.int .i64 f, .slice a xs.length cap, .slice a2 m.length cap2] w fun e w' => ∃ a n c, e = .returned (.slice a n c) ∧ Below w.heap.size w w' ∧ (n = 0 ∨ n = xs.length ∧ ∃ F, w'.ownsRow w.heap.size 3 1 (.slice a n c) xs.length (xsF F xs.length)) := by
  by_cases h : EncOk f xs m
  · refine (enc_on f a xs cap a2 m cap2 w hn hn2 hs hs2 h).mono ?_
    rintro e w' ⟨v, rfl, ho, hb⟩
    rw [encL_len] at ho
    obtain ⟨a5, c5, rfl, _, _⟩ := src_of_owns2 ho
    exact ⟨a5, _, c5, rfl, hb, .inr ⟨rfl, _, ho⟩⟩
  · have := sEncodeWord f a xs cap a2 m cap2 w hn hn2 hs hs2
    rw [show mEncodeWord f xs m = [] by unfold mEncodeWord; rw [if_neg h]] at this
    refine this.mono ?_
    rintro e w' ⟨a, c, rfl, _, hb⟩
    exact ⟨a, _, c, rfl, hb, .inl rfl⟩
/-- The word that is bent, apart from the points and the message. -/
def WS (g S : Nat) (w W : World) (g2 n cap2 : Nat) (a3 : Option Addr) (l : List Int) (cap3 : Nat) (a7 : Option Addr) (m : List Int) (cap7 : Nat) : Prop := (∃ F : Nat → Int, OwnV W g2 n cap2 F) ∧ g2 ≠ g ∧ S ≤ g2 ∧ w.heap.size ≤ S ∧ XM S g W a3 l cap3 ∧ XM S g W a7 m cap7 ∧ Cur g W ∧ w.grownBy W (some g)
theorem WS.grown {g S : Nat} {w W W' : World} {g2 n cap2 : Nat} {a3 : Option Addr} {l : List Int} {cap3 : Nat} {a7 : Option Addr} {m : List Int} {cap7 : Nat} (h : WS g S w W g2 n cap2 a3 l cap3 a7 m cap7) (hg : W.grownBy W' (some g)) (hc : Cur g W') : WS g S w W' g2 n cap2 a3 l cap3 a7 m cap7 := by
  obtain ⟨⟨F, ho⟩, h1, h2, h3, h4, h5, _, h7⟩ := h
  exact ⟨⟨F, ho.grown hg h1⟩, h1, h2, h3, h4.grown hg, h5.grown hg, hc, h7.trans hg⟩
theorem WS.put {g S : Nat} {w W : World} {g2 n cap2 : Nat} {a3 : Option Addr} {l : List Int} {cap3 : Nat} {a7 : Option Addr} {m : List Int} {cap7 : Nat} (h : WS g S w W g2 n cap2 a3 l cap3 a7 m cap7) (hB : g < w.heap.size) (k : Nat) (y : Int) : WS g S w (W.setCell ⟨g2, k, none⟩ (.int .i64 y)) g2 n cap2 a3 l cap3 a7 m cap7 := by
  obtain ⟨⟨F, ho⟩, h1, h2, h3, h4, h5, h6, h7⟩ := h
  have hset : W.grownBy (W.setCell ⟨g2, k, none⟩ (.int .i64 y)) (some g2) := grown_set (World.grownBy.refl _ _) _ _
  exact ⟨⟨upd F k y, ho.set⟩, h1, h2, h3, h4.row hset (fun r hr => by injection hr with hr; omega), h5.row hset (fun r hr => by injection hr with hr; omega), h6.other hset (fun r hr => by injection hr with hr; omega), grown_new h7 hset (fun r hr => by injection hr with hr; omega)⟩
def DWd (g : Nat) (w : World) (e : Ending) (w' : World) : Prop := ∃ (f : Int) (a : Option Addr) (l : List Int) (cap : Nat) (y : Value) (k : Int) (a3 : Option Addr) (m : List Int) (cap3 : Nat), e = .returned (.tuple #[.int .i64 f, .slice a l.length cap, y, .int .i64 k, .slice a3 m.length cap3]) ∧ l.length ≤ 10 ∧ m.length ≤ 10 ∧ XM w'.heap.size g w' a l cap ∧ XM w'.heap.size g w' a3 m cap3 ∧ Cur g w' ∧ w.grownBy w' (some g)
set_option maxRecDepth 100000 in
set_option maxHeartbeats 3200000 in
theorem drawWord_c (g : Nat) (w : World) (hc : Cur g w) : Calls Tryd.prog 67 #[.pointer (some ⟨g, 0, none⟩)] w (DWd g w) := by
  have hB : g < w.heap.size := hc.lt
  go_enter Tryd.func67, Tryd.ntmps67
  go_wp2_with fail
  refine (field_c g w hc).mono ?_
  rintro e w1 ⟨f, _, rfl, g1, c1⟩
  go_wp2_with fail
  refine (below_c g 8 w1 c1 (by omega) (by omega)).mono ?_
  rintro e w2 ⟨t, ⟨t0, t1⟩, rfl, g2, c2⟩
  obtain ⟨t, rfl⟩ := Int.eq_ofNat_of_zero_le t0
  have en : (3 : Int) + (t : Int) = ((3 + t : Nat) : Int) := by omega
  obtain ⟨nn, hnn⟩ : ∃ nn, 3 + t = nn := ⟨_, rfl⟩
  have hn1 : 1 ≤ nn := by omega
  have hn2 : nn ≤ 10 := by omega
  rw [hnn] at en
  have HEN := Lib.hid en
  clear en hnn
  have g12 := g1.trans g2
  clear g1 g2 c1 hc
  go_wp2_with fail
  rw [HEN.out]
  refine (drawPoints_c g f nn w2 c2 (by omega) (by omega)).mono ?_
  rintro e w3 ⟨m3, h31, h32, l, a3, cap3, rfl, hl3, s3, c3, g3⟩
  have hl1 : 1 ≤ l.length := by omega
  have hl2 : l.length ≤ 10 := by omega
  have HX3 := Lib.hid (XM.of s3)
  have g13 := g12.trans g3
  clear s3 g12 g3 c2 hl3 h31 h32 HEN t0 t1
  go_wp2_with fail
  refine (below_c g l.length w3 c3 (by omega) (by omega)).mono ?_
  rintro e w4 ⟨x, ⟨x0, x1⟩, rfl, g4, c4⟩
  obtain ⟨x, rfl⟩ := Int.eq_ofNat_of_zero_le x0
  have HX4 := Lib.hid (HX3.out.grown g4)
  have g14 := g13.trans g4
  clear HX3 g13 c3 x0
  go_wp2_with fail
  refine (once_c g 2 w4 c4 (by omega) (by omega)).mono ?_
  rintro e w5 ⟨b5, rfl, g5, c5⟩
  have hsz4 := Nat.le_trans g4.size g5.size
  have HX5 := Lib.hid ((HX4.out.grown g5).mono hsz4)
  have g15 := g14.trans g5
  clear HX4 g14 c4 g4 g5 hsz4
  go_upto_if 28 with fail
  go_cut [9] from 28 (fun s wd => ∃ k : Nat, s = .int .i64 k ∧ 1 ≤ k ∧ k ≤ l.length ∧ Hid (XM wd.heap.size g wd a3 l cap3) ∧ Cur g wd ∧ w.grownBy wd (some g))
  case first =>
    cases b5
    · go_wp2
      go_meet
      case rel => exact ⟨x + 1, vint (by omega), by omega, by omega, HX5, c5, g15⟩
    · have hq : ((l.length : Int) + 1).tdiv 2 = (((l.length + 1) / 2 : Nat) : Int) := by rw [Int.tdiv_eq_ediv_of_nonneg (by omega)]; omega
      have HQ := Lib.hid hq
      clear hq
      go_wp2_with fail
      refine (below_c g _ w5 c5 ?n0 ?n1).mono ?_
      case n0 => first | omega | (rw [HQ.out]; omega)
      case n1 => first | omega | (rw [HQ.out]; omega)
      rintro e w6 ⟨y, ⟨y0, y1⟩, rfl, g6, c6⟩
      have y2 : y < (((l.length + 1) / 2 : Nat) : Int) := by first | omega | (rw [← HQ.out]; exact y1)
      obtain ⟨y, rfl⟩ := Int.eq_ofNat_of_zero_le y0
      have HX6 := Lib.hid ((HX5.out.grown g6).mono g6.size)
      have g16 := g15.trans g6
      have y3 : y < (l.length + 1) / 2 := by omega
      clear HX5 g15 c5 g6 y0 y1 y2
      go_wp2
      go_meet
      case rel => exact ⟨y + 1, vint (by omega), by omega, by omega, HX6, c6, g16⟩
  case rest =>
    obtain ⟨k, rfl, k1, k2, HX6, c6, g16⟩ := hcut
    clear HX5 g15 c5 x1
    generalize wc = W6 at *
    go_wp2_with fail
    refine (drawList_c g f k W6 c6 (by omega)).mono ?_
    rintro e w7 ⟨v7, rfl, ⟨F7, ho7⟩, c7, g7, hs7⟩
    obtain ⟨a7, cap7, rfl, hx7⟩ := XM.ofRow ho7 c6.lt
    have hmk : (tab k F7).length = k := tab_len _ _
    generalize tab k F7 = m at *
    have HMK := Lib.hid hmk
    clear hmk
    have HM7 := Lib.hid hx7
    have HX7 := Lib.hid ((HX6.out.grown g7).mono g7.size)
    have g17 := g16.trans g7
    clear ho7 hx7 HX6 c6 g7 g16 hs7
    go_wp2_with fail
    refine (enc_any f a3 l cap3 a7 m cap7 w7 (by omega) (by rw [HMK.out]; omega) HX7.out.src HM7.out.src).mono ?_
    rintro e w8 ⟨a8, n8, cap8, rfl, b8, hy8⟩
    have HY8 := Lib.hid hy8
    have HB8 := Lib.hid b8
    have HC7 := Lib.hid c7
    have HG7 := Lib.hid g17
    clear hy8 b8 c7 g17
    go_upto_if 46 with fail
    go_cut [11] from 46 (fun s wd => ∃ g2 cap2 : Nat, s = .slice (some ⟨g2, 0, none⟩) l.length cap2 ∧ Hid (WS g w7.heap.size w wd g2 l.length cap2 a3 l cap3 a7 m cap7))
    case first =>
      have HX8 := Lib.hid (HX7.out.grown (grown_of_below g HB8.out))
      have HM8 := Lib.hid (HM7.out.grown (grown_of_below g HB8.out))
      have c8 := HC7.out.below HB8.out
      have g18 := HG7.out.trans (grown_of_below g HB8.out)
      have hsz8 := HB8.out.size
      have hsw := HG7.out.size
      have hgw := HC7.out.lt
      by_cases hny : n8 = 0
      · subst hny
        go_wp2_with fail
        refine (drawList_c g f l.length w8 c8 (by omega)).mono ?_
        rintro e w9 ⟨v9, rfl, ⟨F9, ho9⟩, c9, g9, hs9⟩
        obtain ⟨g2, cap2, rfl, hg2, hov⟩ := OwnV.of_owns ho9 (by omega)
        have HR : Hid (WS g w7.heap.size w w9 g2 l.length cap2 a3 l cap3 a7 m cap7) := Lib.hid ⟨⟨F9, hov⟩, by omega, by omega, by omega, HX8.out.grown g9, HM8.out.grown g9, c9, g18.trans g9⟩
        clear ho9 hov g9 g18 HX8 HM8
        go_wp2
        go_meet
        case rel => exact ⟨g2, cap2, rfl, HR⟩
      · have hz8 : ((n8 : Int) == 0) = false := by rw [beq_eq_false_iff_ne]; omega
        obtain ⟨hn8, F8, ho8⟩ : n8 = l.length ∧ ∃ F, w8.ownsRow w7.heap.size 3 1 (.slice a8 n8 cap8) l.length (xsF F l.length) := by
          rcases HY8.out with h | h
          · exact absurd h hny
          · exact h
        obtain ⟨g2, cap2, hv, hg2, hov⟩ := OwnV.of_owns ho8 (by omega)
        injection hv with e1 e2 e3
        subst e1
        have HR : Hid (WS g w7.heap.size w w8 g2 l.length cap2 a3 l cap3 a7 m cap7) := Lib.hid ⟨⟨F8, hov⟩, by omega, hg2, hsw, HX8.out, HM8.out, c8, g18⟩
        clear ho8 hov g18 HX8 HM8 HY8
        subst e3
        go_wp2
        go_meet
        case rel => exact ⟨g2, _, by rw [hn8], HR⟩
    case rest =>
      obtain ⟨g2, cap2, rfl, HW⟩ := hcut
      clear HY8 HB8 HC7 HG7 HX7 HM7
      generalize wc = W8 at *
      have hq : ((l.length : Int) - k).tdiv 2 = (((l.length - k) / 2 : Nat) : Int) := by rw [Int.tdiv_eq_ediv_of_nonneg (by omega)]; omega
      have HQ := Lib.hid hq
      have c8 : Cur g W8 := HW.out.2.2.2.2.2.2.1
      clear hq
      go_wp2_with fail
      refine (below_c g _ W8 c8 ?n0 ?n1).mono ?_
      case n0 => first | omega | (rw [HQ.out]; omega)
      case n1 => first | omega | (rw [HQ.out]; omega)
      rintro e w9 ⟨bd, ⟨bd0, bd1⟩, rfl, g9, c9⟩
      have bd2 : bd ≤ 20 := by first | omega | (rw [HQ.out] at bd1; omega)
      obtain ⟨bd, rfl⟩ := Int.eq_ofNat_of_zero_le bd0
      have HW9 := Lib.hid (HW.out.grown g9 c9)
      clear HW c8 g9 bd0 bd1
      go_wp2_with fail
      refine (once_c g 5 w9 c9 (by omega) (by omega)).mono ?_
      rintro e w10 ⟨b10, rfl, g10, c10⟩
      have HW10 := Lib.hid (HW9.out.grown g10 c10)
      clear HW9 g10 c9
      go_upto_if 61 with fail
      go_cut [12] from 61 (fun s wd => ∃ bd : Nat, s = .int .i64 bd ∧ bd ≤ 20 ∧ Hid (WS g w7.heap.size w wd g2 l.length cap2 a3 l cap3 a7 m cap7))
      case first =>
        cases b10
        · go_wp2
          go_meet
          case rel => exact ⟨bd, rfl, by omega, HW10⟩
        · go_wp2_with fail
          refine (below_c g _ w10 c10 (by omega) (by omega)).mono ?_
          rintro e w11 ⟨be, ⟨be0, be1⟩, rfl, g11, c11⟩
          obtain ⟨be, rfl⟩ := Int.eq_ofNat_of_zero_le be0
          have HW11 := Lib.hid (HW10.out.grown g11 c11)
          clear HW10 g11 c10
          go_wp2
          go_meet
          case rel => exact ⟨be, rfl, by omega, HW11⟩
      case rest =>
        clear HW10 c10 bd2
        obtain ⟨be, rfl, hbe, HW⟩ := hcut
        generalize wc = W10 at *
        go_wp2_with fail
        go_loopw [13] (fun iv wr => ∃ i : Nat, iv = .int .i64 i ∧ i ≤ be ∧ Hid (WS g w7.heap.size w wr g2 l.length cap2 a3 l cap3 a7 m cap7)) (fun iv _ => be - (intOf iv).toNat)
        case atStart => exact ⟨0, rfl, Nat.zero_le _, HW⟩
        case round =>
          clear HW
          obtain ⟨i, rfl, hi, HW⟩ := hrel
          by_cases h1 : i < be
          · have hd1 : decide ((i : Int) < be) = true := decide_eq_true (by omega)
            have cw : Cur g wr := HW.out.2.2.2.2.2.2.1
            go_wp2_with fail
            refine (below_c g l.length wr cw (by omega) (by omega)).mono ?_
            rintro e w11 ⟨t, ⟨t0, t1⟩, rfl, g11, c11⟩
            obtain ⟨t, rfl⟩ := Int.eq_ofNat_of_zero_le t0
            have HW11 := Lib.hid (HW.out.grown g11 c11)
            clear HW g11 cw
            go_wp2_with fail
            refine (element_c g f w11 c11).mono ?_
            rintro e w12 ⟨y, _, rfl, g12, c12⟩
            have HW12 := Lib.hid (HW11.out.grown g12 c12)
            have HWP := Lib.hid (HW12.out.put hB t y)
            obtain ⟨F4, ho4⟩ := HW12.out.1
            have cc := ho4.cell (show t < l.length by omega)
            have fr := ho4.frozen t
            have tn : (t : Int) < (l.length : Int) := t1
            clear HW11 HW12 g12 c11 ho4
            go_wp2
            go_roundw
            case rel => exact ⟨i + 1, by go_num, by omega, HWP⟩
            case measure => simp [intOf]; omega
          · have hd1 : decide ((i : Int) < be) = false := decide_eq_false (by omega)
            have hR := HW.out
            have hsz : w7.heap.size ≤ wr.heap.size := by
              obtain ⟨⟨F, ho⟩, _, h2, _⟩ := hR
              have := ho.lt
              omega
            have HE : Hid (DWd g w (.returned (.tuple #[.int .i64 f, .slice a3 l.length cap3, .slice (some ⟨g2, 0, none⟩) l.length cap2, .int .i64 k, .slice a7 m.length cap7])) wr) := Lib.hid ⟨f, a3, l, cap3, _, k, a7, m, cap7, rfl, hl2, by rw [HMK.out]; omega, hR.2.2.2.2.1.mono hsz, hR.2.2.2.2.2.1.mono hsz, hR.2.2.2.2.2.2.1, hR.2.2.2.2.2.2.2⟩
            clear hR HW
            go_wp2
            (try simp only [Exit.inBlock, Exit.then])
            refine bodyPost_ret (results_tmp5 rfl _ _ _) rfl ?_
            exact HE.out
end Go.Proofs.YtangofjpnhhfeabDoor
namespace Go.Proofs.YtangofjpnhhfeabDoor
open Go.RowKit
def D2P (w : World) (e : Ending) (w' : World) : Prop := ∃ (f : Int) (a : Option Addr) (l : List Int) (cap : Nat) (a2 : Option Addr) (m : List Int) (cap2 : Nat), e = .returned (.tuple #[.int .i64 f, .slice a l.length cap, .slice a2 m.length cap2]) ∧ l.length ≤ 100 ∧ m.length ≤ 100 ∧ SrcC w' a l.length cap (lf l) ∧ SrcC w' a2 m.length cap2 (lf m) ∧ Below w.heap.size w w'
theorem drawInterpolate_c (a : Option Addr) (len cap : Nat) (w : World) (hc : Code w a len) : Calls Tryd.prog 21 #[.slice a len cap] w (D2P w) := by
  have R := Lib.hid (drawPairs_c a len cap w hc)
  clear hc
  go_enter Tryd.func21, Tryd.ntmps21
  go_wp2_with fail
  refine R.out.mono ?_
  rintro e w1 ⟨f, a4, l, cap4, a5, m, cap5, rfl, h1, h2, h3, h4, h5, h6⟩
  have HE : Hid (D2P w (.returned (.tuple #[.int .i64 f, .slice a4 l.length cap4, .slice a5 m.length cap5])) w1) := Lib.hid ⟨f, a4, l, cap4, a5, m, cap5, rfl, h2, h3, h4, h5, h6⟩
  clear h1 h2 h3 h4 h5 h6
  go_wp2
  go_ret3
  exact HE.out
def PickL (g : Nat) (w : World) (e : Ending) (w' : World) : Prop := ∃ (a : Option Addr) (l : List Int) (cap : Nat), e = .returned (.slice a l.length cap) ∧ l.length ≤ 100 ∧ SrcC w' a l.length cap (lf l) ∧ w.grownBy w' (some g)
theorem pickl_of {g : Nat} {w w1 w' : World} {v : Value} {n : Nat} {F : Nat → Int} {B : Nat} (h : w'.ownsRow B 3 1 v n (xsF F n)) (hn : n ≤ 100) (hg : w.grownBy w1 (some g)) (hg2 : w1.grownBy w' (some g)) : PickL g w (.returned v) w' := by
  obtain ⟨a, cap, rfl, hc, hs⟩ := src_of_owns2 (owns_to_tab h)
  exact ⟨a, tab n F, cap, rfl, by rw [tab_len]; exact hn, ⟨hc, hs⟩, hg.trans hg2⟩
set_option maxRecDepth 100000 in
set_option maxHeartbeats 1600000 in
theorem pickInts_c (g : Nat) (a : Option Addr) (m : List Int) (cap : Nat) (a2 : Option Addr) (l : List Int) (cap2 : Nat) (w : World) (hc : Cur g w) (hm : m.length ≤ 10) (hl : l.length ≤ 10) (hs : Hid (XM w.heap.size g w a m cap)) (hs2 : Hid (XM w.heap.size g w a2 l cap2)) : Calls Tryd.prog 69 #[.pointer (some ⟨g, 0, none⟩), .slice a m.length cap, .slice a2 l.length cap2] w (PickL g w) := by
  obtain ⟨i0, hi, hz0, hz1, hz2⟩ := info_parts info3
  have HI := Lib.hid hi
  have HZ0 := Lib.hid hz0
  have HZ1 := Lib.hid hz1
  have HZ2 := Lib.hid hz2
  clear hi hz0 hz1 hz2
  go_enter Tryd.func69, Tryd.ntmps69
  go_wp2_with fail
  refine (below_c g 3 w hc (by omega) (by omega)).mono ?_
  rintro e w1 ⟨t, ⟨t0, t1⟩, rfl, g1, c1⟩
  have HM := Lib.hid (hs.out.grown g1).src
  have HL := Lib.hid (hs2.out.grown g1).src
  have hgl : g < w1.heap.size := c1.lt
  have HG1 := Lib.hid g1
  clear hs hs2 g1 c1 hc
  by_cases h0 : t = 0
  · subst h0
    go_wp2
    go_ret
    exact ⟨none, [], 0, rfl, by decide, ⟨Nat.le_refl _, .inl rfl⟩, HG1.out⟩
  · by_cases h1 : t = 1
    · subst h1
      go_wp2_with fail
      refine (copy_c a2 l.length cap2 (lf l) w1 (by omega) HL.out.2).mono ?_
      rintro e w3 ⟨v3, rfl, ho3, b3⟩
      have HE := Lib.hid (pickl_of (g := g) ho3 (by omega) HG1.out (grown_of_below g b3))
      clear ho3 b3
      go_wp2
      go_ret
      exact HE.out
    · have hz0 : (t == 0) = false := by rw [beq_eq_false_iff_ne]; exact h0
      have hz1 : (t == 1) = false := by rw [beq_eq_false_iff_ne]; exact h1
      go_wp2_with fail
      refine (copy_c a m.length cap (lf m) w1 (by omega) HM.out.2).mono ?_
      rintro e w3 ⟨v3, rfl, ho3, b3⟩
      have hge := own_ge ho3
      have hsz := b3.size
      go_wp2_with (at_builtin; refine wpList_append_own _ rfl _ _ 22 rfl w1.heap.size 3 i0 (.int .i64 0) 1 8 Tryd.underlying22 HI.out HZ0.out HZ1.out HZ2.out rfl (by decide) _ _ _ rfl (ho3.alloc _) ⟨w3.heap.size, 0, none⟩ 1 1 [.int .i64 (-1)] rfl rfl ?c1 ?c2 ?c3 ?c4 ?c5 ?_)
      case c1 => exact cell_one_new _ _ _
      case c2 => intro u hu; simp at hu; subst hu; rfl
      case c3 => unfold maxLen; omega
      case c4 => omega
      case c5 => simp; omega
      intro v4 w4 hown' hgrow _
      rw [zxs_more] at hown'
      have g34 : w1.grownBy w4 (some g) := grown_new ((grown_of_below g b3).trans (World.grownBy_alloc w3 _ (some g))) hgrow hge
      have HE := Lib.hid (pickl_of (g := g) hown' (by omega) HG1.out g34)
      clear ho3 b3 hgrow hown' g34 hge
      go_wp2
      go_ret
      exact HE.out
set_option maxRecDepth 100000 in
set_option maxHeartbeats 1600000 in
theorem drawEncodeWord_c (a : Option Addr) (len cap : Nat) (w : World) (hc : Code w a len) : Calls Tryd.prog 37 #[.slice a len cap] w (D2P w) := by
  go_enter Tryd.func37, Tryd.ntmps37
  go_wp2_with fail
  refine (new_c a len cap w hc).mono ?_
  rintro e w1 ⟨rfl, b1, c1⟩
  clear hc
  go_wp2_with fail
  refine (drawWord_c w.heap.size w1 c1).mono ?_
  rintro e w2 ⟨f, a3, l, cap3, y, k, a7, m, cap7, rfl, hl, hm, hx, hy, c2, g2⟩
  have b2 := below_of_grown b1 g2
  have HX := Lib.hid hx
  have HY := Lib.hid hy
  clear hx hy g2 b1 c1
  go_wp2_with fail
  refine (once_c w.heap.size 8 w2 c2 (by omega) (by omega)).mono ?_
  rintro e w3 ⟨b, rfl, g3, c3⟩
  have b3 := below_of_grown b2 g3
  have HX3 := Lib.hid ((HX.out.grown g3).mono g3.size)
  have HY3 := Lib.hid ((HY.out.grown g3).mono g3.size)
  clear HX HY b2 g3 c2
  cases b
  · have HE : Hid (D2P w (.returned (.tuple #[.int .i64 f, .slice a3 l.length cap3, .slice a7 m.length cap7])) w3) := Lib.hid ⟨f, a3, l, cap3, a7, m, cap7, rfl, by omega, by omega, HX3.out.src, HY3.out.src, b3⟩
    clear HX3 HY3
    go_wp2
    go_ret3
    exact HE.out
  · go_wp2_with fail
    refine (pickInts_c w.heap.size a7 m cap7 a3 l cap3 w3 c3 hm hl HY3 HX3).mono ?_
    rintro e w4 ⟨a5, q, cap5, rfl, hq, hsq, g4⟩
    have HE : Hid (D2P w (.returned (.tuple #[.int .i64 f, .slice a3 l.length cap3, .slice a5 q.length cap5])) w4) := Lib.hid ⟨f, a3, l, cap3, a5, q, cap5, rfl, by omega, hq, (HX3.out.grown g4).src, hsq, below_of_grown b3 g4⟩
    clear HX3 HY3 hsq g4
    go_wp2
    go_ret3
    exact HE.out
end Go.Proofs.YtangofjpnhhfeabDoor
namespace Go.Proofs.YtangofjpnhhfeabDoor
open Go.RowKit
def ListC (w : World) (l : List Int) (e : Ending) (w' : World) : Prop := ∃ a cap, e = .returned (.slice a l.length cap) ∧ SrcC w' a l.length cap (lf l) ∧ Below w.heap.size w w'
set_option maxHeartbeats 1600000 in
theorem cpO_some (b off n cap : Nat) (F : Nat → Int) (w : World) (hn : n ≤ 1048576) (hlt : b < w.heap.size) (hc : ∀ j, j < n → w.cell? ⟨b, off + j, none⟩ = some (.int .i64 (F j))) :
    Calls Tryd.prog 24 #[.slice (some ⟨b, off, none⟩) n cap] w (fun e w' => ∃ v, e = .returned v ∧ w'.ownsRow w.heap.size 3 1 v n (xsF F n) ∧ Below w.heap.size w w') := by
  have HC := Lib.hid hc
  clear hc
  obtain ⟨i0, hi, hz0, hz1, hz2⟩ := info_parts info3
  have HI := Lib.hid hi
  have HZ0 := Lib.hid hz0
  have HZ1 := Lib.hid hz1
  have HZ2 := Lib.hid hz2
  clear hi hz0 hz1 hz2
  go_enter Tryd.func24, Tryd.ntmps24
  go_wp2_with fail
  go_loopw [3, 4] (fun v i wr => ∃ k : Nat, i = .int .i64 k ∧ k ≤ n ∧ wr.ownsRow w.heap.size 3 1 v k (xsF F k) ∧ Below w.heap.size w wr) (fun _ i _ => n - (intOf i).toNat)
  case atStart => exact ⟨0, rfl, Nat.zero_le _, own_empty w F, (Below.refl _ _).alloc (Nat.le_refl _) _⟩
  case round =>
    obtain ⟨k, rfl, hk, hown, hnx⟩ := hrel
    by_cases h1 : k < n
    · have hc2 : wr.cell? ⟨b, off + k, none⟩ = some (.int .i64 (F k)) := (hnx.cell (p := ⟨b, off + k, none⟩) hlt).trans (HC.out k h1)
      have hs := hnx.size
      go_wp2_with (at_builtin; refine wpList_append_own _ rfl _ _ 22 rfl w.heap.size 3 i0 (.int .i64 0) 1 8 Tryd.underlying22 HI.out HZ0.out HZ1.out HZ2.out rfl (by decide) _ _ _ rfl (hown.alloc _) ⟨wr.heap.size, 0, none⟩ 1 1 [.int .i64 (F k)] rfl rfl ?c1 ?c2 ?c3 ?c4 ?c5 ?_)
      case c1 => exact cell_one_new _ _ _
      case c2 => intro u hu; simp at hu; subst hu; rfl
      case c3 => unfold maxLen; omega
      case c4 => omega
      case c5 => simp; omega
      intro v' w1 hown' hgrow _
      have hbel : Below w.heap.size w w1 := (hnx.alloc hs _).grown hgrow (by simp; omega) (own_ge hown)
      rw [xsF_succ] at hown'
      clear hgrow hown hc2
      go_wp2
      go_roundw
      case rel => exact ⟨k + 1, by go_num, by omega, hown', hbel⟩
      case measure => simp [intOf]; omega
    · have hd : decide (k < n) = false := by simpa using h1
      obtain rfl : k = n := by omega
      have HO := Lib.hid hown
      clear hown
      go_wp2
      go_ret
      exact ⟨_, rfl, HO.out, hnx⟩
theorem cpC_some (b off n cap : Nat) (F : Nat → Int) (w : World) (hn : n ≤ 1048576) (hlt : b < w.heap.size) (hc : ∀ j, j < n → w.cell? ⟨b, off + j, none⟩ = some (.int .i64 (F j))) :
    Calls Tryd.prog 24 #[.slice (some ⟨b, off, none⟩) n cap] w (fun e w' => ∃ a cap, e = .returned (.slice a n cap) ∧ SrcC w' a n cap F ∧ Below w.heap.size w w') :=
  (cpO_some b off n cap F w hn hlt hc).mono fun e w' h => by
    obtain ⟨v, rfl, ho, hb⟩ := h
    obtain ⟨a', cap', rfl, hcap, hsrc⟩ := src_of_owns2 ho
    exact ⟨a', cap', rfl, ⟨hcap, hsrc⟩, hb⟩
theorem cpC_none (a : Option Addr) (cap : Nat) (F : Nat → Int) (w : World) : Calls Tryd.prog 24 #[.slice a 0 cap] w (fun e w' => ∃ a cap, e = .returned (.slice a 0 cap) ∧ SrcC w' a 0 cap F ∧ Below w.heap.size w w') := by
  go_enter Tryd.func24, Tryd.ntmps24
  go_wp2
  refine wp_loop_rounds 1 ?_
  rw [rounds_succ]
  go_wp2
  go_ret
  exact ⟨_, _, rfl, ⟨Nat.zero_le _, .inl rfl⟩, (Below.refl _ _).alloc (Nat.le_refl _) _⟩
theorem cp_lc (a : Option Addr) (l : List Int) (cap : Nat) (w : World) (hn : l.length ≤ 1048576) (hs : Src w a l.length (lf l)) : Calls Tryd.prog 24 #[.slice a l.length cap] w (ListC w l) := by
  rcases hs with hz | ⟨b, off, rfl, hlt, hc⟩
  · have := cpC_none a cap (lf l) w
    rw [← hz] at this
    exact this
  · exact cpC_some b off l.length cap (lf l) w hn hlt hc
end Go.Proofs.YtangofjpnhhfeabDoor
namespace Go.Proofs.YtangofjpnhhfeabDoor
open Go.RowKit
theorem bar_step (f x : Int) (X Y : Nat → Int) (n i : Nat) : RS (barF f x X Y n i + RS (RS (Y i * mPower f (byF f X i n) (-1)) (P f) * mPower f (x - X i) (-1)) (P f)) (P f) = barF f x X Y n (i + 1) := rfl
set_option maxRecDepth 100000 in
set_option maxHeartbeats 6400000 in
theorem weights_walk (iWeights : ∀ (f : Int) (a : Option Addr) (l : List Int) (cap : Nat) (w : World), l.length ≤ 1048576 → SrcC w a l.length cap (lf l) → Tab w → Calls Tryd.prog 33 #[.int .i64 f, .slice a l.length cap] w (ListC w (mWeights f l)))
    (iExtend : ∀ (f : Int) (a : Option Addr) (l : List Int) (cap : Nat) (a2 : Option Addr) (m : List Int) (cap2 : Nat) (x : Int) (w : World), l.length ≤ 1048576 → m.length ≤ 1048576 → SrcC w a l.length cap (lf l) → SrcC w a2 m.length cap2 (lf m) → Tab w → Calls Tryd.prog 29 #[.int .i64 f, .slice a l.length cap, .slice a2 m.length cap2, .int .i64 x] w (IntP w (mExtend f l m x)))
    (iVanish : ∀ (f : Int) (a : Option Addr) (l : List Int) (cap : Nat) (w : World), l.length ≤ 1048576 → SrcC w a l.length cap (lf l) → Tab w → Calls Tryd.prog 32 #[.int .i64 f, .slice a l.length cap] w (ListC w (mVanish f l)))
    (iEvalPoly : ∀ (f : Int) (a : Option Addr) (l : List Int) (cap : Nat) (x : Int) (w : World), l.length ≤ 1048576 → SrcC w a l.length cap (lf l) → Tab w → Calls Tryd.prog 31 #[.int .i64 f, .slice a l.length cap, .int .i64 x] w (IntP w (mEvalPoly f l x)))
    (a0 : Option Addr) (len0 cap0 : Nat) (w : World) (hl2 : len0 ≤ 1048576) (hcode : Code w a0 len0) (ht : Tab w) : Calls Tryd.prog 7 #[.slice a0 len0 cap0] w fun e w' => e = .returned (.bool true) ∧ Below w.heap.size w w' := by
  have IW := Lib.hid iWeights
  have IE := Lib.hid iExtend
  have IV := Lib.hid iVanish
  have IP := Lib.hid iEvalPoly
  have HT := Lib.hid ht
  have HCO := Lib.hid hcode
  clear iWeights iExtend iVanish iEvalPoly ht hcode
  go_enter Tryd.func7, Tryd.ntmps7
  go_wp2_with fail
  refine (big_no a0 len0 cap0 w hl2).mono ?_
  rintro e w' ⟨rfl, rfl⟩
  go_wp2_with fail
  refine (drawInterpolate_c a0 len0 cap0 w HCO.out).mono ?_
  rintro e w1 ⟨f, a, l, cap, a2, m, cap2, rfl, n1, n2, s1, s2, b1⟩
  have HX1 := Lib.hid s1
  have HY1 := Lib.hid s2
  clear s1 s2
  have RI := sInterpolate f a l cap a2 m cap2 w1 (by omega) (by omega) HX1.out HY1.out.2
  by_cases k1 : InterOk f l m
  · have hml := k1.2.1
    have hf := k1.1.1
    have hl1 := k1.1.2.1
    rw [show mInterpolate1 f l m = true by unfold mInterpolate1; simp [k1]] at RI
    have HRI := Lib.hid RI
    have hp := P_bd hf.1 hf.2
    have HW : Hid (∀ a c w, SrcC w a l.length c (lf l) → Tab w → Calls Tryd.prog 33 #[.int .i64 f, .slice a l.length c] w (ListC w (wtL f l))) := Lib.hid fun a c w h1 h2 => by
      have := IW.out f a l c w (by omega) h1 h2
      rwa [show mWeights f l = wtL f l by unfold mWeights; rw [if_pos k1.1]] at this
    have HE : Hid (∀ x a c a2 c2 w, 0 ≤ x → x < P f → SrcC w a l.length c (lf l) → SrcC w a2 l.length c2 (lf m) → Tab w → Calls Tryd.prog 29 #[.int .i64 f, .slice a l.length c, .slice a2 l.length c2, .int .i64 x] w (IntP w (evL f x (interL f (lf l) (lf m) l.length)))) := Lib.hid fun x a c a2 c2 w x0 x1 h1 h2 h3 => by
      have := IE.out f a l c a2 m c2 x w (by omega) (by omega) h1 (by rw [hml]; exact h2) h3
      rw [show mExtend f l m x = evL f x (interL f (lf l) (lf m) l.length) by unfold mExtend; rw [if_pos ⟨k1, x0, x1⟩], hml] at this
      exact this
    have HV : Hid (∀ a c w, SrcC w a l.length c (lf l) → Tab w → Calls Tryd.prog 32 #[.int .i64 f, .slice a l.length c] w (ListC w (vanL f (lf l) l.length))) := Lib.hid fun a c w h1 h2 => by
      have := IV.out f a l c w (by omega) h1 h2
      rwa [show mVanish f l = vanL f (lf l) l.length by unfold mVanish; rw [if_pos k1.1]] at this
    have vpol : PolOk f (vanL f (lf l) l.length) := ⟨hf, by rw [vanL_len hf.1 hf.2]; omega, vanL_pol hf.1 hf.2 _ _⟩
    have HP : Hid (∀ x a c w, SrcC w a (vanL f (lf l) l.length).length c (lf (vanL f (lf l) l.length)) → Tab w → Calls Tryd.prog 31 #[.int .i64 f, .slice a (vanL f (lf l) l.length).length c, .int .i64 x] w (IntP w (evL f x (vanL f (lf l) l.length)))) := Lib.hid fun x a c w h1 h2 => by
      have := IP.out f a (vanL f (lf l) l.length) c x w (by have := vpol.2.1; omega) h1 h2
      rwa [eval_is x vpol] at this
    have HBAR : Hid (∀ x, 0 ≤ x → x < P f → (∀ i, i < l.length → lf l i ≠ x) → evL f x (interL f (lf l) (lf m) l.length) = RS (barF f x (lf l) (lf m) l.length l.length * evL f x (vanL f (lf l) l.length)) (P f)) := Lib.hid fun x x0 x1 hx => bary k1 x0 x1 hx
    have HXB : Hid (∀ i, i < l.length → 0 ≤ lf l i ∧ lf l i < P f) := Lib.hid fun i hi => k1.1.2.2.1 i hi
    have HWT : Hid (∀ i, i < l.length → lf (wtL f l) i = mPower f (byF f (lf l) i l.length) (-1)) := Lib.hid fun i hi => by unfold wtL; rw [lf_tab, if_pos hi]
    have HWL : Hid ((wtL f l).length = l.length) := Lib.hid (tab_len _ _)
    have HCPX : Hid (∀ W, Src W a l.length (lf l) → Calls Tryd.prog 24 #[.slice a l.length cap] W (ListC W l)) := Lib.hid fun W h => cp_lc a l cap W (by omega) h
    have HCPY : Hid (∀ W, Src W a2 l.length (lf m) → Calls Tryd.prog 24 #[.slice a2 l.length cap2] W (fun e w' => ∃ a cap, e = .returned (.slice a l.length cap) ∧ SrcC w' a l.length cap (lf m) ∧ Below W.heap.size W w')) := Lib.hid fun W h => by
      have := cp_lc a2 m cap2 W (by omega) (by rw [hml]; exact h)
      unfold ListC at this
      rwa [hml] at this
    have HSU : Hid (∀ x y w, Calls Tryd.prog 34 #[.int .i64 f, .int .i64 x, .int .i64 y] w fun e w' => e = .returned (.int .i64 (RS (x + y) (P f))) ∧ w = w') := Lib.hid fun x y w => by have := sAdd f x y w; rwa [mAdd, if_pos hf] at this
    have HMU : Hid (∀ x y w, Calls Tryd.prog 35 #[.int .i64 f, .int .i64 x, .int .i64 y] w fun e w' => e = .returned (.int .i64 (RS (x * y) (P f))) ∧ w = w') := Lib.hid fun x y w => by have := sMul f x y w; rwa [mMul, if_pos hf] at this
    have HIN := Lib.hid (sInverse f)
    have HMO := Lib.hid (sModulus f)
    have HBS := Lib.hid (fun x i => bar_step f x (lf l) (lf m) l.length i)
    have HB0 : Hid (∀ x, barF f x (lf l) (lf m) l.length 0 = 0) := Lib.hid fun x => rfl
    have HYm : Hid (SrcC w1 a2 l.length cap2 (lf m)) := Lib.hid (by rw [← hml]; exact HY1.out)
    rw [hml]
    rw [hml] at HRI
    clear RI k1 vpol hml HY1 IW IE IV IP n2
    generalize mInterpolate0 f l m = IL at *
    generalize interL f (lf l) (lf m) l.length = NL at *
    generalize vanL f (lf l) l.length = VL at *
    generalize wtL f l = WL at *
    generalize hY : lf m = Y at *
    clear hY
    go_wp2_with fail
    refine HRI.out.mono ?_
    rintro e w4 ⟨aI, cI, rfl, _, b4⟩
    have c4 := below_step b1 b4
    have HX4 := Lib.hid (HX1.out.keep b4)
    have HY4 := Lib.hid (HYm.out.keep b4)
    clear HX1 HYm b1 b4 HRI
    go_wp2_with fail
    refine (byteAt_c a0 len0 cap0 4 w4 hl2 (by omega) (HCO.out.keep c4)).mono ?_
    rintro e w' ⟨x0, rfl, hx0, hx1, rfl⟩
    have q7 : ¬ P f = 0 := by omega
    have q8 : (P f == 0) = false := by rw [beq_eq_false_iff_ne]; exact q7
    have hxt : 0 ≤ x0 % P f ∧ x0 % P f < P f := ⟨Int.emod_nonneg _ q7, Int.emod_lt_of_pos _ (by omega)⟩
    obtain ⟨x, hx⟩ : ∃ x, x0 % P f = x := ⟨_, rfl⟩
    rw [hx] at hxt
    have HXE := Lib.hid hx
    clear hx
    go_wp2_with fail
    refine (HMO.out w4).mono ?_
    rintro e w' ⟨rfl, rfl⟩
    go_wp2_with fail
    rw [HXE.out]
    refine (HCPX.out w4 HX4.out.2).mono ?_
    rintro e w5 ⟨p5, d5, rfl, s5, b5⟩
    have c5 := below_step c4 b5
    have HX5 := Lib.hid (HX4.out.keep b5)
    have HY5 := Lib.hid (HY4.out.keep b5)
    have HWC := Lib.hid (HW.out p5 d5 w5 s5 (HT.out.below c5))
    clear HX4 HY4 s5 b5 c4 HXE hx0 hx1
    go_wp2_with fail
    refine HWC.out.mono ?_
    intro e w6 h6
    unfold ListC at h6
    rw [HWL.out] at h6
    obtain ⟨pw, cw, rfl, sw, b6⟩ := h6
    have c6 := below_step c5 b6
    have HX6 := Lib.hid (HX5.out.keep b6)
    have HY6 := Lib.hid (HY5.out.keep b6)
    have HW6 := Lib.hid (src_cells sw.2)
    have HXc := Lib.hid (src_cells HX6.out.2)
    have HYc := Lib.hid (src_cells HY6.out.2)
    have hdl : ((l.length : Int) != l.length) = false := by simp
    have HBs := HB0.out x
    clear HX5 HY5 sw b6 c5 HWC
    go_wp2_with fail
    go_loopw [10, 11] (fun sv iv wr => ∃ i q : Nat, iv = .int .i64 i ∧ i ≤ l.length ∧ sv = .int .i64 (barF f x (lf l) Y l.length i) ∧ Hid (∀ j, j < i → lf l j ≠ x) ∧ wr = w6.drewN q) (fun _ iv _ => l.length - (intOf iv).toNat)
    case atStart => exact ⟨0, 0, rfl, Nat.zero_le _, vint HBs.symm, Lib.hid fun j hj => by omega, rfl⟩
    case round =>
      obtain ⟨i, q, rfl, hi, rfl, HN, rfl⟩ := hrel
      have c7 := below_drewN c6 q
      by_cases h1 : i < l.length
      · have hd1 : decide ((i : Int) < l.length) = true := decide_eq_true (by omega)
        obtain ⟨ba, oa, rfl, ca⟩ := HXc.out i h1
        obtain ⟨by2, oy, rfl, cy⟩ := HYc.out i h1
        obtain ⟨bw, ow, rfl, cwt⟩ := HW6.out i h1
        rw [HWT.out i h1] at cwt
        have hi0 : (0 : Int) ≤ (i : Int) := by omega
        have hi2 : (i : Int) < l.length := by omega
        have hxb := HXB.out i h1
        have q9 : IntKind.i64.wrap (x - lf l i) = x - lf l i := IntWalk.i64_in _ (by omega)
        by_cases h2 : lf l i = x
        · have hd2 : (lf l i == x) = true := by rw [beq_iff_eq]; exact h2
          clear h2
          go_wp2
          go_ret
          exact ⟨rfl, c7⟩
        · have hd2 : (lf l i == x) = false := by rw [beq_eq_false_iff_ne]; exact h2
          have HN2 : Hid (∀ j, j < i + 1 → lf l j ≠ x) := Lib.hid fun j hj => by
            by_cases e : j < i
            · exact HN.out j e
            · obtain rfl : j = i := by omega
              exact h2
          have HBi := Lib.hid (HBS.out x i)
          have HMk : Hid (∀ p2 x y, Calls Tryd.prog 35 #[.int .i64 f, .int .i64 x, .int .i64 y] (w6.drewN (q + p2)) fun e w' => e = .returned (.int .i64 (RS (x * y) (P f))) ∧ ∃ n, w' = w6.drewN (q + n)) := Lib.hid fun p2 x y => (HMU.out x y _).mono fun _ _ h => ⟨h.1, p2, h.2.symm⟩
          have HAk : Hid (∀ p2 x y, Calls Tryd.prog 34 #[.int .i64 f, .int .i64 x, .int .i64 y] (w6.drewN (q + p2)) fun e w' => e = .returned (.int .i64 (RS (x + y) (P f))) ∧ ∃ n, w' = w6.drewN (q + n)) := Lib.hid fun p2 x y => (HSU.out x y _).mono fun _ _ h => ⟨h.1, p2, h.2.symm⟩
          have HIk : Hid (∀ p2 x, Calls Tryd.prog 36 #[.int .i64 f, .int .i64 x] (w6.drewN (q + p2)) fun e w' => e = .returned (.int .i64 (mPower f x (-1))) ∧ ∃ n, w' = w6.drewN (q + n)) := Lib.hid fun p2 x => (HIN.out x _).mono fun _ _ h => ⟨h.1, p2, h.2.symm⟩
          clear h2 HN
          go_wp2
          go_quiet ((first | (go_at_call 35; exact HMk.out _ _ _) | (go_at_call 34; exact HAk.out _ _ _) | (go_at_call 36; exact HIk.out _ _)))
          go_wp2
          go_roundw
          case rel => exact ⟨i + 1, _, by go_num, by omega, vint (by first | exact HBi.out | (rw [← HBi.out])), HN2, rfl⟩
          case measure => simp [intOf]; omega
      · have hd1 : decide ((i : Int) < l.length) = false := decide_eq_false (by omega)
        have hin : i = l.length := by omega
        subst hin
        have HEQ := Lib.hid (HBAR.out x hxt.1 hxt.2 HN.out)
        have b7 : Below w6.heap.size w6 (w6.drewN q) := below_drewN (Below.refl _ _) q
        have HX7 := Lib.hid (HX6.out.keep b7)
        have HY7 := Lib.hid (HY6.out.keep b7)
        clear HX6 HY6 HN HBAR HXc HYc HW6 b7 c6
        generalize w6.drewN q = w7 at *
        go_wp2_with fail
        refine (HCPX.out w7 HX7.out.2).mono ?_
        rintro e w8 ⟨p8, d8, rfl, s8, b8⟩
        have c8 := below_step c7 b8
        have HX8 := Lib.hid (HX7.out.keep b8)
        have HY8 := Lib.hid (HY7.out.keep b8)
        have HP8 := Lib.hid s8
        clear HX7 HY7 s8 b8 c7
        go_wp2_with fail
        refine (HCPY.out w8 HY8.out.2).mono ?_
        rintro e w9 ⟨p9, d9, rfl, s9, b9⟩
        have c9 := below_step c8 b9
        have HX9 := Lib.hid (HX8.out.keep b9)
        have HP9 := Lib.hid (HP8.out.keep b9)
        have HQ9 := Lib.hid s9
        have HEC := Lib.hid (HE.out x p8 d8 p9 d9 w9 hxt.1 hxt.2 HP9.out HQ9.out (HT.out.below c9))
        clear HX8 HY8 HP8 s9 b9 c8 HP9 HQ9
        go_wp2_with fail
        refine HEC.out.mono ?_
        rintro e w10 ⟨rfl, b10⟩
        have c10 := below_step c9 b10
        have HX10 := Lib.hid (HX9.out.keep b10)
        clear HX9 b10 c9 HEC
        go_wp2_with fail
        refine (HCPX.out w10 HX10.out.2).mono ?_
        rintro e w11 ⟨p11, d11, rfl, s11, b11⟩
        have c11 := below_step c10 b11
        have HVC := Lib.hid (HV.out p11 d11 w11 s11 (HT.out.below c11))
        clear HX10 s11 b11 c10
        go_wp2_with fail
        refine HVC.out.mono ?_
        rintro e w12 ⟨p12, d12, rfl, s12, b12⟩
        have c12 := below_step c11 b12
        have HPC := Lib.hid (HP.out x p12 d12 w12 s12 (HT.out.below c12))
        clear s12 b12 c11 HVC
        go_wp2_with fail
        refine HPC.out.mono ?_
        rintro e w13 ⟨rfl, b13⟩
        have c13 := below_step c12 b13
        clear b13 c12 HPC
        go_wp2_with fail
        refine (HMU.out _ _ w13).mono ?_
        rintro e w' ⟨rfl, rfl⟩
        rw [← HEQ.out]
        go_wp2
        go_ret
        exact ⟨by simp, c13⟩
  · rw [show mInterpolate1 f l m = false by unfold mInterpolate1; simp [k1]] at RI
    have HRI := Lib.hid RI
    clear RI k1 HX1 HY1
    generalize mInterpolate0 f l m = IL at *
    go_wp2_with fail
    refine HRI.out.mono ?_
    rintro e w4 ⟨_, _, rfl, _, b4⟩
    have c4 := below_step b1 b4
    go_wp2
    go_ret
    exact ⟨rfl, c4⟩
end Go.Proofs.YtangofjpnhhfeabDoor
namespace Go.Proofs.YtangofjpnhhfeabDoor
open Go.RowKit
def ListCB (w : World) (l : List Int) (b : Bool) (e : Ending) (w' : World) : Prop := ∃ a cap, e = .returned (.tuple #[.slice a l.length cap, .bool b]) ∧ SrcC w' a l.length cap (lf l) ∧ Below w.heap.size w w'
set_option maxRecDepth 100000 in
set_option maxHeartbeats 6400000 in
theorem interBack_walk (iInterpolate : ∀ (f : Int) (a : Option Addr) (l : List Int) (cap : Nat) (a2 : Option Addr) (m : List Int) (cap2 : Nat) (w : World), l.length ≤ 1048576 → m.length ≤ 1048576 → SrcC w a l.length cap (lf l) → SrcC w a2 m.length cap2 (lf m) → Tab w → Calls Tryd.prog 23 #[.int .i64 f, .slice a l.length cap, .slice a2 m.length cap2] w (ListCB w (mInterpolate0 f l m) (mInterpolate1 f l m)))
    (iEvalMany : ∀ (f : Int) (a : Option Addr) (l : List Int) (cap : Nat) (a2 : Option Addr) (m : List Int) (cap2 : Nat) (w : World), l.length ≤ 1048576 → m.length ≤ 1048576 → SrcC w a l.length cap (lf l) → SrcC w a2 m.length cap2 (lf m) → Tab w → Calls Tryd.prog 26 #[.int .i64 f, .slice a l.length cap, .slice a2 m.length cap2] w (ListC w (mEvalMany f l m)))
    (iExtend : ∀ (f : Int) (a : Option Addr) (l : List Int) (cap : Nat) (a2 : Option Addr) (m : List Int) (cap2 : Nat) (x : Int) (w : World), l.length ≤ 1048576 → m.length ≤ 1048576 → SrcC w a l.length cap (lf l) → SrcC w a2 m.length cap2 (lf m) → Tab w → Calls Tryd.prog 29 #[.int .i64 f, .slice a l.length cap, .slice a2 m.length cap2, .int .i64 x] w (IntP w (mExtend f l m x)))
    (iVanish : ∀ (f : Int) (a : Option Addr) (l : List Int) (cap : Nat) (w : World), l.length ≤ 1048576 → SrcC w a l.length cap (lf l) → Tab w → Calls Tryd.prog 32 #[.int .i64 f, .slice a l.length cap] w (ListC w (mVanish f l)))
    (iEvalPoly : ∀ (f : Int) (a : Option Addr) (l : List Int) (cap : Nat) (x : Int) (w : World), l.length ≤ 1048576 → SrcC w a l.length cap (lf l) → Tab w → Calls Tryd.prog 31 #[.int .i64 f, .slice a l.length cap, .int .i64 x] w (IntP w (mEvalPoly f l x)))
    (a0 : Option Addr) (len0 cap0 : Nat) (w : World) (hl2 : len0 ≤ 1048576) (hcode : Code w a0 len0) (ht : Tab w) : Calls Tryd.prog 6 #[.slice a0 len0 cap0] w fun e w' => e = .returned (.bool true) ∧ Below w.heap.size w w' := by
  have II := Lib.hid iInterpolate
  have IM := Lib.hid iEvalMany
  have IE := Lib.hid iExtend
  have IV := Lib.hid iVanish
  have IP := Lib.hid iEvalPoly
  have HT := Lib.hid ht
  have HCO := Lib.hid hcode
  clear iInterpolate iEvalMany iExtend iVanish iEvalPoly ht hcode
  go_enter Tryd.func6, Tryd.ntmps6
  go_wp2_with fail
  refine (big_no a0 len0 cap0 w hl2).mono ?_
  rintro e w' ⟨rfl, rfl⟩
  go_wp2_with fail
  refine (drawInterpolate_c a0 len0 cap0 w HCO.out).mono ?_
  rintro e w1 ⟨f, a, l, cap, a2, m, cap2, rfl, n1, n2, s1, s2, b1⟩
  have HX1 := Lib.hid s1
  have HY1 := Lib.hid s2
  clear s1 s2
  have RI := sInterpolate f a l cap a2 m cap2 w1 (by omega) (by omega) HX1.out HY1.out.2
  by_cases k1 : InterOk f l m
  · have hml := k1.2.1
    have hf := k1.1.1
    have hl1 := k1.1.2.1
    have hq := k1.is
    have hnp := hq.pok hf.1 hf.2 hl1.2
    have hmany := inter_many k1
    rw [show mInterpolate1 f l m = true by unfold mInterpolate1; simp [k1], show mInterpolate0 f l m = interL f (lf l) (lf m) l.length by unfold mInterpolate0; rw [if_pos k1], hml] at RI
    have HRI := Lib.hid RI
    have hp := P_bd hf.1 hf.2
    have HNL : Hid ((interL f (lf l) (lf m) l.length).length ≤ 1048576) := Lib.hid (by have := hnp.2.1; omega)
    have HII : Hid (∀ a c a2 c2 w, SrcC w a l.length c (lf l) → SrcC w a2 l.length c2 (lf m) → Tab w → Calls Tryd.prog 23 #[.int .i64 f, .slice a l.length c, .slice a2 l.length c2] w (ListCB w (interL f (lf l) (lf m) l.length) true)) := Lib.hid fun a c a2 c2 w h1 h2 h3 => by
      have := II.out f a l c a2 m c2 w (by omega) (by omega) h1 (by rw [hml]; exact h2) h3
      rw [show mInterpolate1 f l m = true by unfold mInterpolate1; simp [k1], show mInterpolate0 f l m = interL f (lf l) (lf m) l.length by unfold mInterpolate0; rw [if_pos k1], hml] at this
      exact this
    have HIM : Hid (∀ a c a2 c2 w, SrcC w a (interL f (lf l) (lf m) l.length).length c (lf (interL f (lf l) (lf m) l.length)) → SrcC w a2 l.length c2 (lf l) → Tab w → Calls Tryd.prog 26 #[.int .i64 f, .slice a (interL f (lf l) (lf m) l.length).length c, .slice a2 l.length c2] w (fun e w' => ∃ a cap, e = .returned (.slice a l.length cap) ∧ SrcC w' a l.length cap (lf m) ∧ Below w.heap.size w w')) := Lib.hid fun a c a2 c2 w h1 h2 h3 => by
      have := IM.out f a (interL f (lf l) (lf m) l.length) c a2 l c2 w HNL.out (by omega) h1 h2 h3
      rw [show mEvalMany f (interL f (lf l) (lf m) l.length) l = m by unfold mEvalMany; rw [if_pos hmany.1]; exact hmany.2] at this
      unfold ListC at this
      rwa [hml] at this
    have HE : Hid (∀ x a c a2 c2 w, 0 ≤ x → x < P f → SrcC w a l.length c (lf l) → SrcC w a2 l.length c2 (lf m) → Tab w → Calls Tryd.prog 29 #[.int .i64 f, .slice a l.length c, .slice a2 l.length c2, .int .i64 x] w (IntP w (evL f x (interL f (lf l) (lf m) l.length)))) := Lib.hid fun x a c a2 c2 w x0 x1 h1 h2 h3 => by
      have := IE.out f a l c a2 m c2 x w (by omega) (by omega) h1 (by rw [hml]; exact h2) h3
      rw [show mExtend f l m x = evL f x (interL f (lf l) (lf m) l.length) by unfold mExtend; rw [if_pos ⟨k1, x0, x1⟩], hml] at this
      exact this
    have HSE : Hid (∀ x a c w, Src w a (interL f (lf l) (lf m) l.length).length (lf (interL f (lf l) (lf m) l.length)) → Calls Tryd.prog 30 #[.int .i64 f, .slice a (interL f (lf l) (lf m) l.length).length c, .int .i64 x] w (IntP w (evL f x (interL f (lf l) (lf m) l.length)))) := Lib.hid fun x a c w h1 => by
      have := sEvalPoly f a (interL f (lf l) (lf m) l.length) c x w HNL.out h1
      rwa [eval_is x hnp] at this
    have HV : Hid (∀ a c w, SrcC w a l.length c (lf l) → Tab w → Calls Tryd.prog 32 #[.int .i64 f, .slice a l.length c] w (ListC w (vanL f (lf l) l.length))) := Lib.hid fun a c w h1 h2 => by
      have := IV.out f a l c w (by omega) h1 h2
      rwa [show mVanish f l = vanL f (lf l) l.length by unfold mVanish; rw [if_pos k1.1]] at this
    have vpol : PolOk f (vanL f (lf l) l.length) := ⟨hf, by rw [vanL_len hf.1 hf.2]; omega, vanL_pol hf.1 hf.2 _ _⟩
    have HP : Hid (∀ a c w, SrcC w a (vanL f (lf l) l.length).length c (lf (vanL f (lf l) l.length)) → Tab w → Calls Tryd.prog 31 #[.int .i64 f, .slice a (vanL f (lf l) l.length).length c, .int .i64 (lf l 0)] w (IntP w 0)) := Lib.hid fun a c w h1 h2 => by
      have := IP.out f a (vanL f (lf l) l.length) c (lf l 0) w (by have := vpol.2.1; omega) h1 h2
      rw [eval_is (lf l 0) vpol, vanL_ev hf.1 hf.2, pdZ_zero (i := 0) (by omega) rfl] at this
      rwa [show RS 0 (P f) = 0 by simp [RS]] at this
    have HCPX : Hid (∀ W, Src W a l.length (lf l) → Calls Tryd.prog 24 #[.slice a l.length cap] W (ListC W l)) := Lib.hid fun W h => cp_lc a l cap W (by omega) h
    have HCPY : Hid (∀ W, Src W a2 l.length (lf m) → Calls Tryd.prog 24 #[.slice a2 l.length cap2] W (fun e w' => ∃ a cap, e = .returned (.slice a l.length cap) ∧ SrcC w' a l.length cap (lf m) ∧ Below W.heap.size W w')) := Lib.hid fun W h => by
      have := cp_lc a2 m cap2 W (by omega) (by rw [hml]; exact h)
      unfold ListC at this
      rwa [hml] at this
    have HCPN : Hid (∀ aI cI W, Src W aI (interL f (lf l) (lf m) l.length).length (lf (interL f (lf l) (lf m) l.length)) → Calls Tryd.prog 24 #[.slice aI (interL f (lf l) (lf m) l.length).length cI] W (ListC W (interL f (lf l) (lf m) l.length))) := Lib.hid fun aI cI W h => cp_lc aI _ cI W HNL.out h
    have HSN : Hid (∀ p c q d W, Src W p (interL f (lf l) (lf m) l.length).length (lf (interL f (lf l) (lf m) l.length)) → Src W q (interL f (lf l) (lf m) l.length).length (lf (interL f (lf l) (lf m) l.length)) → Calls Tryd.prog 25 #[.slice p (interL f (lf l) (lf m) l.length).length c, .slice q (interL f (lf l) (lf m) l.length).length d] W (TrueP W)) := Lib.hid fun p c q d W h1 h2 => sameZ p q _ c d W HNL.out h1 h2
    have HSY : Hid (∀ p c q d W, Src W p l.length (lf m) → Src W q l.length (lf m) → Calls Tryd.prog 25 #[.slice p l.length c, .slice q l.length d] W (TrueP W)) := Lib.hid fun p c q d W h1 h2 => by
      have := sameZ p q m c d W (by omega) (by rw [hml]; exact h1) (by rw [hml]; exact h2)
      rwa [hml] at this
    have HMO := Lib.hid (sModulus f)
    have HYm : Hid (SrcC w1 a2 l.length cap2 (lf m)) := Lib.hid (by rw [← hml]; exact HY1.out)
    rw [hml]
    clear RI k1 vpol hml HY1 II IM IE IV IP n2 hq hnp hmany HNL
    generalize interL f (lf l) (lf m) l.length = NL at *
    generalize vanL f (lf l) l.length = VL at *
    generalize hY : lf m = Y at *
    clear hY
    go_wp2_with fail
    refine HRI.out.mono ?_
    rintro e w4 ⟨aI, cI, rfl, sI, b4⟩
    have c4 := below_step b1 b4
    have HX4 := Lib.hid (HX1.out.keep b4)
    have HY4 := Lib.hid (HYm.out.keep b4)
    have HN4 := Lib.hid sI
    clear HX1 HYm b1 b4 HRI sI
    go_wp2_with fail
    refine (HCPX.out w4 HX4.out.2).mono ?_
    rintro e w5 ⟨p5, d5, rfl, s5, b5⟩
    have c5 := below_step c4 b5
    have HX5 := Lib.hid (HX4.out.keep b5)
    have HY5 := Lib.hid (HY4.out.keep b5)
    have HN5 := Lib.hid (HN4.out.keep b5)
    have HP5 := Lib.hid s5
    clear HX4 HY4 HN4 s5 b5 c4
    go_wp2_with fail
    refine (HCPY.out w5 HY5.out.2).mono ?_
    rintro e w6 ⟨p6, d6, rfl, s6, b6⟩
    have c6 := below_step c5 b6
    have HX6 := Lib.hid (HX5.out.keep b6)
    have HY6 := Lib.hid (HY5.out.keep b6)
    have HN6 := Lib.hid (HN5.out.keep b6)
    have HIC := Lib.hid (HII.out p5 d5 p6 d6 w6 (HP5.out.keep b6) s6 (HT.out.below c6))
    clear HX5 HY5 HN5 HP5 s6 b6 c5
    go_wp2_with fail
    refine HIC.out.mono ?_
    rintro e w7 ⟨p7, d7, rfl, s7, b7⟩
    have c7 := below_step c6 b7
    have HX7 := Lib.hid (HX6.out.keep b7)
    have HY7 := Lib.hid (HY6.out.keep b7)
    have HN7 := Lib.hid (HN6.out.keep b7)
    have HA7 := Lib.hid s7
    clear HX6 HY6 HN6 s7 b7 c6 HIC
    go_wp2_with fail
    refine (HSN.out p7 d7 aI cI w7 HA7.out.2 HN7.out).mono ?_
    rintro e w7b ⟨rfl, g7⟩
    have c7b := below_step c7 g7
    have HX7b := Lib.hid (HX7.out.keep g7)
    have HY7b := Lib.hid (HY7.out.keep g7)
    have HN7b := Lib.hid (HN7.out.keep g7)
    have HA7b := Lib.hid (HA7.out.keep g7)
    clear HX7 HY7 HN7 HA7 c7 g7
    go_wp2_with fail
    refine (HCPX.out w7b HX7b.out.2).mono ?_
    rintro e w8 ⟨p8, d8, rfl, s8, b8⟩
    have c8 := below_step c7b b8
    have HX8 := Lib.hid (HX7b.out.keep b8)
    have HY8 := Lib.hid (HY7b.out.keep b8)
    have HN8 := Lib.hid (HN7b.out.keep b8)
    have HMC := Lib.hid (HIM.out p7 d7 p8 d8 w8 (HA7b.out.keep b8) s8 (HT.out.below c8))
    clear HX7b HY7b HN7b HA7b s8 b8 c7b
    go_wp2_with fail
    refine HMC.out.mono ?_
    rintro e w9 ⟨p9, d9, rfl, s9, b9⟩
    have c9 := below_step c8 b9
    have HX9 := Lib.hid (HX8.out.keep b9)
    have HY9 := Lib.hid (HY8.out.keep b9)
    have HN9 := Lib.hid (HN8.out.keep b9)
    have HM9 := Lib.hid s9
    clear HX8 HY8 HN8 s9 b9 c8 HMC
    go_wp2_with fail
    refine (HSY.out p9 d9 a2 cap2 w9 HM9.out.2 HY9.out.2).mono ?_
    rintro e w9b ⟨rfl, g9⟩
    have c9b := below_step c9 g9
    have HX9b := Lib.hid (HX9.out.keep g9)
    have HY9b := Lib.hid (HY9.out.keep g9)
    have HN9b := Lib.hid (HN9.out.keep g9)
    clear HM9 HX9 HY9 HN9 c9 g9
    go_wp2_with fail
    refine (HCPX.out w9b HX9b.out.2).mono ?_
    rintro e w10 ⟨p10, d10, rfl, s10, b10⟩
    have c10 := below_step c9b b10
    have HX10 := Lib.hid (HX9b.out.keep b10)
    have HY10 := Lib.hid (HY9b.out.keep b10)
    have HN10 := Lib.hid (HN9b.out.keep b10)
    have HA10 := Lib.hid s10
    clear HX9b HY9b HN9b s10 b10 c9b
    go_wp2_with fail
    refine (HCPN.out aI cI w10 HN10.out).mono ?_
    rintro e w11 ⟨p11, d11, rfl, s11, b11⟩
    have c11 := below_step c10 b11
    have HX11 := Lib.hid (HX10.out.keep b11)
    have HY11 := Lib.hid (HY10.out.keep b11)
    have HN11 := Lib.hid (HN10.out.keep b11)
    have HA11 := Lib.hid (HA10.out.keep b11)
    have HB11 := Lib.hid s11
    clear HX10 HY10 HN10 HA10 s11 b11 c10
    go_wp2_with fail
    refine (HCPX.out w11 HX11.out.2).mono ?_
    rintro e w12 ⟨p12, d12, rfl, s12, b12⟩
    have c12 := below_step c11 b12
    have HX12 := Lib.hid (HX11.out.keep b12)
    have HY12 := Lib.hid (HY11.out.keep b12)
    have HN12 := Lib.hid (HN11.out.keep b12)
    have HA12 := Lib.hid (HA11.out.keep b12)
    have HMC := Lib.hid (HIM.out p11 d11 p12 d12 w12 (HB11.out.keep b12) s12 (HT.out.below c12))
    clear HX11 HY11 HN11 HA11 HB11 s12 b12 c11
    go_wp2_with fail
    refine HMC.out.mono ?_
    rintro e w13 ⟨p13, d13, rfl, s13, b13⟩
    have c13 := below_step c12 b13
    have HX13 := Lib.hid (HX12.out.keep b13)
    have HY13 := Lib.hid (HY12.out.keep b13)
    have HN13 := Lib.hid (HN12.out.keep b13)
    have HIC := Lib.hid (HII.out p10 d10 p13 d13 w13 (HA12.out.keep b13) s13 (HT.out.below c13))
    clear HX12 HY12 HN12 HA12 s13 b13 c12 HMC
    go_wp2_with fail
    refine HIC.out.mono ?_
    rintro e w14 ⟨p14, d14, rfl, s14, b14⟩
    have c14 := below_step c13 b14
    have HX14 := Lib.hid (HX13.out.keep b14)
    have HY14 := Lib.hid (HY13.out.keep b14)
    have HN14 := Lib.hid (HN13.out.keep b14)
    have HB14 := Lib.hid s14
    clear HX13 HY13 HN13 s14 b14 c13 HIC
    go_wp2_with fail
    refine (byteAt_c a0 len0 cap0 3 w14 hl2 (by omega) (HCO.out.keep c14)).mono ?_
    rintro e w' ⟨x0, rfl, hx0, hx1, rfl⟩
    have q7 : ¬ P f = 0 := by omega
    have q8 : (P f == 0) = false := by rw [beq_eq_false_iff_ne]; exact q7
    have hxt : 0 ≤ x0 % P f ∧ x0 % P f < P f := ⟨Int.emod_nonneg _ q7, Int.emod_lt_of_pos _ (by omega)⟩
    obtain ⟨x, hx⟩ : ∃ x, x0 % P f = x := ⟨_, rfl⟩
    rw [hx] at hxt
    have HXE := Lib.hid hx
    clear hx
    go_wp2_with fail
    refine (HMO.out w14).mono ?_
    rintro e w' ⟨rfl, rfl⟩
    obtain ⟨ba, oa, rfl, ca⟩ := src_cells HX14.out.2 0 (by omega)
    have ca0 : w14.cell? ⟨ba, oa, none⟩ = some (.int .i64 (lf l 0)) := by simpa using ca
    have bd : Below w14.heap.size w14 w14.drew := (Below.refl _ _).drew
    have kd : w14.drew.cell? ⟨ba, oa, none⟩ = some (.int .i64 (lf l 0)) := ca0
    have c14d : Below w.heap.size w w14.drew := c14.drew
    have HXd := Lib.hid (HX14.out.keep bd)
    have HYd := Lib.hid (HY14.out.keep bd)
    have HNd := Lib.hid (HN14.out.keep bd)
    have HBd := Lib.hid (HB14.out.keep bd)
    have eX : (evL f x NL == evL f x NL) = true := by simp
    have e0 : ((0 : Int) == 0) = true := by simp
    have n0 : (0 : Int) < l.length := by omega
    have n0n : 0 < l.length := by omega
    have hne : ¬ l = [] := fun e => by rw [e] at n0n; exact absurd n0n (by decide)
    have dn0 : decide ((0 : Int) < l.length) = true := decide_eq_true n0
    clear HX14 HY14 HN14 HB14 ca c14
    go_wp2_with fail
    rw [HXE.out]
    go_region_held3 (fun W => W.cell? ⟨ba, oa, none⟩ = some (.int .i64 (lf l 0)))
      (first
        | exact ca0
        | exact kd
        | exact k15
        | exact k16
        | exact k17
        | exact k18
        | exact k19
        | exact k20
        | exact k21
        | exact k22
        | go_keep)
      (first
        | (go_at_call 25; refine (HSN.out p14 d14 aI cI _ HBd.out.2 HNd.out).mono ?_; rintro e w15 ⟨rfl, b15⟩; have k15 := (b15.cell (p := ⟨ba, oa, none⟩) (block_lt_of_cell kd)).trans kd)
        | (go_at_call 24; refine (HCPX.out w19 (HXd.out.keep E19).2).mono ?_; rintro e w20 ⟨p20, d20, rfl, s20, b20⟩; have k20 := (b20.cell (p := ⟨ba, oa, none⟩) (block_lt_of_cell k19)).trans k19; have E20 := below_step E19 b20)
        | (go_at_call 24; refine (HCPY.out w16 (HYd.out.keep E16).2).mono ?_; rintro e w17 ⟨p17, d17, rfl, s17, b17⟩; have k17 := (b17.cell (p := ⟨ba, oa, none⟩) (block_lt_of_cell k16)).trans k16; have E17 := below_step E16 b17)
        | (go_at_call 29; refine (HE.out x p16 d16 p17 d17 w17 hxt.1 hxt.2 (s16.keep b17) s17 (HT.out.below (below_step c14d E17))).mono ?_; rintro e w18 ⟨rfl, b18⟩; have k18 := (b18.cell (p := ⟨ba, oa, none⟩) (block_lt_of_cell k17)).trans k17; have E18 := below_step E17 b18)
        | (go_at_call 30; refine (HSE.out x aI cI w18 (HNd.out.keep E18)).mono ?_; rintro e w19 ⟨rfl, b19⟩; have k19 := (b19.cell (p := ⟨ba, oa, none⟩) (block_lt_of_cell k18)).trans k18; have E19 := below_step E18 b19)
        | (go_at_call 24; refine (HCPX.out w15 (HXd.out.keep b15).2).mono ?_; rintro e w16 ⟨p16, d16, rfl, s16, b16⟩; have k16 := (b16.cell (p := ⟨ba, oa, none⟩) (block_lt_of_cell k15)).trans k15; have E16 := below_step b15 b16)
        | (go_at_call 32; refine (HV.out p20 d20 w20 s20 (HT.out.below (below_step c14d E20))).mono ?_; rintro e w21 ⟨p21, d21, rfl, s21, b21⟩; have k21 := (b21.cell (p := ⟨ba, oa, none⟩) (block_lt_of_cell k20)).trans k20; have E21 := below_step E20 b21)
        | (go_at_call 31; refine (HP.out p21 d21 w21 s21 (HT.out.below (below_step c14d E21))).mono ?_; rintro e w22 ⟨rfl, b22⟩; have k22 := (b22.cell (p := ⟨ba, oa, none⟩) (block_lt_of_cell k21)).trans k21; have E22 := below_step E21 b22))
    all_goals
      have c22 := below_step c14d E22
      go_wp2
      go_ret
      exact ⟨by simp, c22⟩
  · rw [show mInterpolate1 f l m = false by unfold mInterpolate1; simp [k1]] at RI
    have HRI := Lib.hid RI
    clear RI k1 HX1 HY1
    generalize mInterpolate0 f l m = IL at *
    go_wp2_with fail
    refine HRI.out.mono ?_
    rintro e w4 ⟨_, _, rfl, _, b4⟩
    have c4 := below_step b1 b4
    go_wp2
    go_ret
    exact ⟨rfl, c4⟩
end Go.Proofs.YtangofjpnhhfeabDoor
namespace Go.Proofs.YtangofjpnhhfeabDoor
open Go.RowKit
theorem OwnL.listC {w w' : World} {l : List Int} {e : Ending} (h : OwnL w l e w') : ListC w l e w' := by
  obtain ⟨a, c, h1, h2, h3⟩ := h
  exact ⟨a, c, h1, h2.srcC, h3⟩
theorem OwnLM.listC {w w' : World} {l : List Int} {e : Ending} (h : OwnLM w l e w') : ListC w l e w' := by
  obtain ⟨a, c, h1, h2, h3⟩ := h
  exact ⟨a, c, h1, h2.srcC, h3⟩
theorem OwnLB.listCB {w w' : World} {l : List Int} {b : Bool} {e : Ending} (h : OwnLB w l b e w') : ListCB w l b e w' := by
  obtain ⟨a, c, h1, h2, h3⟩ := h
  exact ⟨a, c, h1, h2.srcC, h3⟩
theorem iVanishD (f : Int) (a : Option Addr) (l : List Int) (cap : Nat) (w : World) (hn : l.length ≤ 1048576) (hs : SrcC w a l.length cap (lf l)) (ht : Tab w) : Calls Tryd.prog 32 #[.int .i64 f, .slice a l.length cap] w (ListC w (mVanish f l)) := (iVanish f a l cap w hn hs ht).mono fun _ _ h => h.listC
theorem iWeightsD (f : Int) (a : Option Addr) (l : List Int) (cap : Nat) (w : World) (hn : l.length ≤ 1048576) (hs : SrcC w a l.length cap (lf l)) (ht : Tab w) : Calls Tryd.prog 33 #[.int .i64 f, .slice a l.length cap] w (ListC w (mWeights f l)) := (iWeights f a l cap w hn hs ht).mono fun _ _ h => h.listC
theorem iEvalManyD (f : Int) (a : Option Addr) (l : List Int) (cap : Nat) (a2 : Option Addr) (m : List Int) (cap2 : Nat) (w : World) (hn : l.length ≤ 1048576) (hn2 : m.length ≤ 1048576) (hs : SrcC w a l.length cap (lf l)) (hs2 : SrcC w a2 m.length cap2 (lf m)) (ht : Tab w) : Calls Tryd.prog 26 #[.int .i64 f, .slice a l.length cap, .slice a2 m.length cap2] w (ListC w (mEvalMany f l m)) := (iEvalMany f a l cap a2 m cap2 w hn hn2 hs hs2 ht).mono fun _ _ h => h.listC
theorem iInterpolateD (f : Int) (a : Option Addr) (l : List Int) (cap : Nat) (a2 : Option Addr) (m : List Int) (cap2 : Nat) (w : World) (hn : l.length ≤ 1048576) (hn2 : m.length ≤ 1048576) (hs : SrcC w a l.length cap (lf l)) (hs2 : SrcC w a2 m.length cap2 (lf m)) (ht : Tab w) : Calls Tryd.prog 23 #[.int .i64 f, .slice a l.length cap, .slice a2 m.length cap2] w (ListCB w (mInterpolate0 f l m) (mInterpolate1 f l m)) := (iInterpolate f a l cap a2 m cap2 w hn hn2 hs hs2 ht).mono fun _ _ h => h.listCB
theorem iExtendD (f : Int) (a : Option Addr) (l : List Int) (cap : Nat) (a2 : Option Addr) (m : List Int) (cap2 : Nat) (x : Int) (w : World) (hn : l.length ≤ 1048576) (hn2 : m.length ≤ 1048576) (hs : SrcC w a l.length cap (lf l)) (hs2 : SrcC w a2 m.length cap2 (lf m)) (ht : Tab w) : Calls Tryd.prog 29 #[.int .i64 f, .slice a l.length cap, .slice a2 m.length cap2, .int .i64 x] w (IntP w (mExtend f l m x)) := iExtend f a l cap a2 m cap2 x w hn hn2 hs hs2 ht
theorem iEvalPolyD (f : Int) (a : Option Addr) (l : List Int) (cap : Nat) (x : Int) (w : World) (hn : l.length ≤ 1048576) (hs : SrcC w a l.length cap (lf l)) (ht : Tab w) : Calls Tryd.prog 31 #[.int .i64 f, .slice a l.length cap, .int .i64 x] w (IntP w (mEvalPoly f l x)) := iEvalPoly f a l cap x w hn hs.2 ht
end Go.Proofs.YtangofjpnhhfeabDoor
namespace Go.Proofs.YtangofjpnhhfeabDoor
theorem cntN_stop {P : Nat → Bool} {i : Nat} (h : ∀ j, i ≤ j → P j = false) : ∀ d, cntN P (i + d) = cntN P i
  | 0 => rfl
  | d + 1 => by
    show cntN P (i + d) + (if P (i + d) then 1 else 0) = _
    rw [cntN_stop h d, h (i + d) (by omega)]
    simp
theorem selL_stop {P : Nat → Bool} {i : Nat} (X : Nat → Int) (h : ∀ j, i ≤ j → P j = false) : ∀ d, selL P X (i + d) = selL P X i
  | 0 => rfl
  | d + 1 => by
    show (if P (i + d) then selL P X (i + d) ++ [X (i + d)] else selL P X (i + d)) = _
    rw [h (i + d) (by omega)]
    simpa using selL_stop X h d
def idS : Nat → Int := fun i => (i : Int)
theorem gone_has (P : Nat → Bool) (n : Nat) : ∀ i, i < n → hasL (selL P idS n) (i : Int) = P i := by
  obtain ⟨s, s1, s2, s3, s4⟩ := sel_idx P n
  have hl := selL_len P idS n
  intro i hi
  cases hp : P i
  · refine has_no fun j hj e => ?_
    rw [hl] at hj
    rw [s3 idS j hj] at e
    have h1 := (s1 j hj).2
    have : s j = i := by unfold idS at e; omega
    rw [this, hp] at h1
    cases h1
  · obtain ⟨j, hj, e⟩ := s4 i hi hp
    refine has_yes (j := j) (by rw [hl]; exact hj) ?_
    rw [s3 idS j hj, e]
    rfl
theorem gaps_num {f : Int} {xs m : List Int} (h : EncOk f xs m) {P : Nat → Bool} {F : Nat → Int} (hP : ∀ j, j < xs.length → P j = false → F j = lf (encL f xs m) j) (hc : cntN P xs.length + m.length ≤ xs.length) :
    mDecodeGaps0 f xs (tab xs.length F) (m.length : Int) (selL P idS xs.length) = m ∧ mDecodeGaps1 f xs (tab xs.length F) (m.length : Int) (selL P idS xs.length) = 0 ∧ mDecodeGaps2 f xs (tab xs.length F) (m.length : Int) (selL P idS xs.length) = true := by
  obtain ⟨s, s1, s2, s3, s4⟩ := sel_idx P xs.length
  have hl := selL_len P idS xs.length
  have hh := gone_has P xs.length
  have hcc : cntN (fun i : Nat => !hasL (selL P idS xs.length) (i : Int)) xs.length = cntN (fun i => !P i) xs.length := cntN_congr fun i hi => by rw [hh i hi]
  have hnot := cntN_not P xs.length
  refine gaps_back h (tab_len _ _) ⟨h.1, tab_len _ _, by rw [hl]; exact cntN_le _ _, fun j hj => ?_, fun j hj => ?_⟩ (by rw [hcc]; omega) fun i hi e => ?_
  · rw [hl] at hj
    rw [s3 idS j hj]
    have := (s1 j hj).1
    unfold idS
    omega
  · rw [hl] at hj
    rw [s3 idS j (by omega), s3 idS (j + 1) hj]
    have := s2 j (j + 1) (by omega) hj
    unfold idS
    omega
  · rw [hh i hi] at e
    rw [lf_tab, if_pos hi]
    exact hP i hi e
end Go.Proofs.YtangofjpnhhfeabDoor
namespace Go.Proofs.YtangofjpnhhfeabDoor
open Go.RowKit
theorem cp_y (a : Option Addr) (F : Nat → Int) (n cap : Nat) (w : World) (hn : n ≤ 1048576) (hs : Src w a n F) : Calls Tryd.prog 24 #[.slice a n cap] w (ListC w (tab n F)) := by
  have h := cp_lc a (tab n F) cap w (by rw [tab_len]; exact hn) (by
    rw [tab_len]
    rcases hs with h | ⟨b, off, h1, h2, h3⟩
    · exact .inl h
    · exact .inr ⟨b, off, h1, h2, fun j hj => by rw [h3 j hj, lf_tab, if_pos hj]⟩)
  rwa [tab_len] at h
set_option maxRecDepth 100000 in
set_option maxHeartbeats 12800000 in
theorem gaps_walk (a0 : Option Addr) (len0 cap0 : Nat) (w : World) (hl2 : len0 ≤ 1048576) (hcode : Code w a0 len0) (ht : Tab w) (hg : Ety w) : Calls Tryd.prog 9 #[.slice a0 len0 cap0] w fun e w' => e = .returned (.bool true) ∧ Below w.heap.size w w' := by
  have HT := Lib.hid ht
  have HG := Lib.hid hg
  have HCO := Lib.hid hcode
  obtain ⟨i0, hi, hz0, hz1, hz2⟩ := info_parts info3
  have HI := Lib.hid hi
  have HZ0 := Lib.hid hz0
  have HZ1 := Lib.hid hz1
  have HZ2 := Lib.hid hz2
  clear hi hz0 hz1 hz2 ht hg hcode
  go_enter Tryd.func9, Tryd.ntmps9
  go_wp2_with fail
  refine (big_no a0 len0 cap0 w hl2).mono ?_
  rintro e w' ⟨rfl, rfl⟩
  go_wp2_with fail
  refine (drawEncodeWord_c a0 len0 cap0 w HCO.out).mono ?_
  rintro e w1 ⟨f, a, l, cap, a2, m, cap2, rfl, n1, n2, s1, s2, b1⟩
  have HX1 := Lib.hid s1
  have HM1 := Lib.hid s2
  have HB1 := Lib.hid b1
  clear s1 s2 b1
  by_cases k1 : EncOk f l m
  · obtain ⟨hf, x1, x10, hk1, hk10⟩ := code_ok k1.1
    have hkn : m.length ≤ l.length := by have := k1.1.2.2.2; omega
    have RE := Lib.hid (enc_on f a l cap a2 m cap2 w1 (by omega) (by omega) HX1.out HM1.out k1)
    go_wp2_with fail
    refine RE.out.mono ?_
    intro e w2 h2
    obtain ⟨v2, rfl, ho2, b2⟩ := h2
    rw [encL_len] at ho2
    obtain ⟨gw, cw, rfl, hgw, hw2⟩ := OwnV.of_owns ho2 (by omega)
    have HX2 : Hid (SrcC w1 a l.length cap (lf l)) := HX1
    have HM2 : Hid (SrcC w1 a2 m.length cap2 (lf m)) := HM1
    have hlw2 := hw2.lt
    have OE := Lib.hid (own_lower (own_empty w2 (lf (selL (fun _ => false) idS 0))) b2.size)
    have HW2 := Lib.hid (hw2.keep ((Below.refl w2.heap.size w2).alloc (Nat.le_refl _) (.cells #[] 3)))
    have hb2 := b2.alloc b2.size (.cells #[] 3)
    have HE2 : Hid (∀ j, j < l.length → (fun _ : Nat => false) j = false → lf (encL f l m) j = lf (encL f l m) j) := Lib.hid fun _ _ _ => rfl
    have hnz : ((l.length : Int) == 0) = false := by rw [beq_eq_false_iff_ne]; omega
    have hnil : ¬ l = [] := fun e => by rw [e] at x1; simp at x1
    have ADD : Hid (∀ x W, Calls Tryd.prog 34 #[.int .i64 f, .int .i64 x, .int .i64 1] W fun e w' => e = .returned (.int .i64 (mAdd f x 1)) ∧ W = w') := Lib.hid fun x W => sAdd f x 1 W
    have l10 : (l.length : Int) ≤ 10 := by omega
    have m10 : (m.length : Int) ≤ 10 := by omega
    clear ho2 hw2 b2 RE
    go_wp2_with fail
    go_loopw [7, 8] (fun v iv wr => ∃ (i : Nat) (PP : Nat → Bool) (FF : Nat → Int) (av : Option Addr) (cv : Nat), iv = .int .i64 i ∧ v = .slice av (cntN PP i) cv ∧ i ≤ l.length ∧ Hid (wr.ownsRow w1.heap.size 3 1 (.slice av (cntN PP i) cv) (cntN PP i) (xsF (lf (selL PP idS i)) (cntN PP i))) ∧ Hid (OwnV wr gw l.length cw FF) ∧ (Value.slice av (cntN PP i) cv).ownBlock ≠ some gw ∧ Hid (∀ j, j < l.length → PP j = false → FF j = lf (encL f l m) j) ∧ Hid (∀ j, i ≤ j → PP j = false) ∧ cntN PP i + m.length ≤ l.length ∧ gw < wr.heap.size ∧ Below w1.heap.size w1 wr) (fun _ iv _ => l.length - (intOf iv).toNat)
    case atStart => exact ⟨0, fun _ => false, lf (encL f l m), some ⟨w2.heap.size, 0, none⟩, 0, rfl, rfl, Nat.zero_le _, OE, HW2, (fun e => by injection e with e; have e : w2.heap.size = gw := e; omega), Lib.hid (fun _ _ _ => rfl), Lib.hid fun _ _ => rfl, (by show 0 + m.length ≤ l.length; omega), (by simp; omega), hb2⟩
    case round =>
      clear OE HW2 HE2 hb2
      obtain ⟨i, PP, FF, av, cv, rfl, rfl, hin, HV, HW, hne, HPE, HPS, hcnt, hlw, hbel⟩ := hrel
      have hsz := hbel.size
      by_cases h1 : i < l.length
      · have hd1 : decide ((i : Int) < l.length) = true := decide_eq_true (by omega)
        by_cases h2 : (m.length : Int) < (l.length : Int) - (cntN PP i : Nat)
        · have hd2 : decide ((m.length : Int) < (l.length : Int) - (cntN PP i : Nat)) = true := decide_eq_true h2
          have hcb : ((cntN PP i : Nat) : Int) ≤ 10 := by omega
          have HAT := Lib.hid (byteAt_c a0 len0 cap0 i wr hl2 (by omega) (HCO.out.keep (below_step HB1.out hbel)))
          have hcpos : cntN PP i + 1 + m.length ≤ l.length := by omega
          clear h2
          go_wp2_with fail
          refine HAT.out.mono ?_
          rintro e w' ⟨x, rfl, x0, x1, rfl⟩
          clear HAT
          obtain ⟨y, hy⟩ : ∃ y, x.tmod 3 = y := ⟨_, rfl⟩
          by_cases hy0 : y = 0
          · have hyb : (y == 0) = true := by rw [beq_iff_eq]; exact hy0
            have c2 := HW.out.cell h1
            have hge := own_ge HV.out
            have hi0 : (0 : Int) ≤ (i : Int) := by omega
            have hi2 : (i : Int) < l.length := by omega
            clear hy0
            go_wp2_with (at_builtin; refine wpList_append_own_at _ rfl _ _ 22 rfl w1.heap.size 3 i0 (.int .i64 0) 1 8 Tryd.underlying22 HI.out HZ0.out HZ1.out HZ2.out rfl (by decide) _ _ _ rfl (HV.out.alloc _) ⟨wr.heap.size, 0, none⟩ 1 1 [.int .i64 (i : Int)] rfl rfl ?c1 ?c2 ?c3 ?c4 ?c5 ?_)
            case c1 => exact cell_one_new _ _ _
            case c2 => intro u hu; simp at hu; subst hu; rfl
            case c3 => unfold maxLen; omega
            case c4 => omega
            case c5 => simp; omega
            intro v' w6 hown' hgrow _ hat
            have hbel6 : Below w1.heap.size w1 w6 := (hbel.alloc hsz _).grown hgrow (by simp; omega) hge
            have hal : (wr.alloc (.cells #[.int .i64 (i : Int)] 3)).heap[gw]? = wr.heap[gw]? := heap_alloc_old _ _ hlw
            have hblk6 : w6.heap[gw]? = wr.heap[gw]? := (hgrow.block gw (by simp; omega) (fun e => hne e.symm)).trans hal
            have HW6 := Lib.hid (v_of_block HW.out hblk6)
            have hlw6 : gw < w6.heap.size := HW6.out.lt
            have hne6 : v'.ownBlock ≠ some gw := fun e => by
              rcases hat with h | h
              · exact hne (h.symm.trans e)
              · rw [e] at h; injection h with h; first | omega | (simp at h; omega)
            obtain ⟨av2, cv2, rfl, _⟩ : ∃ a c, v' = .slice a (cntN PP i + 1) c ∧ cntN PP i + 1 ≤ c := by
              rcases hown'.2 with ⟨_, h0⟩ | ⟨g9, c9, cur9, e9, _, _, h9, _⟩
              · omega
              · exact ⟨_, c9, e9, h9⟩
            have HPN : Hid ((fun j => if j = i then true else PP j) i = true) := Lib.hid (by simp)
            have ec : cntN (fun j => if j = i then true else PP j) i = cntN PP i := cntN_congr fun j hj => by simp [show ¬ j = i by omega]
            have es : selL (fun j => if j = i then true else PP j) idS i = selL PP idS i := selL_congr _ fun j hj => by simp [show ¬ j = i by omega]
            have ey := sel_yes (p := fun j => if j = i then true else PP j) idS HPN.out
            rw [ec, es] at ey
            have HV6 : Hid (w6.ownsRow w1.heap.size 3 1 (.slice av2 (cntN PP i + 1) cv2) (cntN PP i + 1) (xsF (lf (selL (fun j => if j = i then true else PP j) idS (i + 1))) (cntN (fun j => if j = i then true else PP j) (i + 1)))) := Lib.hid (by
              rw [← ey.1]
              exact hown')
            have HEC := Lib.hid ey.2
            have c6 := HW6.out.cell h1
            have f6 := HW6.out.frozen i
            clear hgrow hown' hat ey ec es HV HW c2 hbel hblk6 hal hne hlw
            go_wp2_with fail
            refine (ADD.out (FF i) w6).mono ?_
            rintro e w' ⟨rfl, rfl⟩
            have HW7 := Lib.hid (HW6.out.set (s := i) (x := mAdd f (FF i) 1))
            have HV7 : Hid ((w6.setCell ⟨gw, i, none⟩ (.int .i64 (mAdd f (FF i) 1))).ownsRow w1.heap.size 3 1 (.slice av2 (cntN (fun j => if j = i then true else PP j) (i + 1)) cv2) (cntN (fun j => if j = i then true else PP j) (i + 1)) (xsF (lf (selL (fun j => if j = i then true else PP j) idS (i + 1))) (cntN (fun j => if j = i then true else PP j) (i + 1)))) := Lib.hid (by
              have h9 := HV6.out
              rw [← HEC.out]
              rw [← HEC.out] at h9
              exact ownsRow_setCell_other h9 hne6 _)
            have HPE7 : Hid (∀ j, j < l.length → (fun j => if j = i then true else PP j) j = false → upd FF i (mAdd f (FF i) 1) j = lf (encL f l m) j) := Lib.hid fun j hj hp => by
              by_cases e : j = i
              · simp [e] at hp
              · unfold upd
                rw [if_neg e]
                exact HPE.out j hj (by simpa [e] using hp)
            have HPS7 : Hid (∀ j, i + 1 ≤ j → (fun j => if j = i then true else PP j) j = false) := Lib.hid fun j hj => by
              simp [show ¬ j = i by omega, HPS.out j (by omega)]
            have HBL7 := Lib.hid (hbel6.setCell (p := ⟨gw, i, none⟩) hgw (.int .i64 (mAdd f (FF i) 1)))
            have HNE7 : Hid ((Value.slice av2 (cntN (fun j => if j = i then true else PP j) (i + 1)) cv2).ownBlock ≠ some gw) := Lib.hid (fun e => hne6 (by
              cases av2 with
              | none => exact e
              | some q => exact e))
            have HVE : Hid (Value.slice av2 (cntN PP i + 1) cv2 = .slice av2 (cntN (fun j => if j = i then true else PP j) (i + 1)) cv2) := Lib.hid (by rw [HEC.out])
            have HCN : Hid (cntN (fun j => if j = i then true else PP j) (i + 1) + m.length ≤ l.length) := Lib.hid (by rw [← HEC.out]; omega)
            clear HW6 HV6 HPE HPS hbel6 hne6 HPN HEC
            go_wp2
            go_roundw
            case rel => exact ⟨i + 1, _, _, av2, cv2, by go_num, HVE.out, by omega, HV7, HW7, HNE7.out, HPE7, HPS7, HCN.out, by simp; omega, HBL7.out⟩
            case measure => simp [intOf]; omega
          · have hyb : (y == 0) = false := by rw [beq_eq_false_iff_ne]; exact hy0
            have en := sel_no (p := PP) idS (HPS.out i (Nat.le_refl _))
            have HV6 : Hid (wr.ownsRow w1.heap.size 3 1 (.slice av (cntN PP (i + 1)) cv) (cntN PP (i + 1)) (xsF (lf (selL PP idS (i + 1))) (cntN PP (i + 1)))) := Lib.hid (by rw [en.1, en.2]; exact HV.out)
            have HVE : Hid (Value.slice av (cntN PP i) cv = .slice av (cntN PP (i + 1)) cv) := Lib.hid (by rw [en.2])
            have HNE7 : Hid ((Value.slice av (cntN PP (i + 1)) cv).ownBlock ≠ some gw) := Lib.hid (by rw [en.2]; exact hne)
            have HCN : Hid (cntN PP (i + 1) + m.length ≤ l.length) := Lib.hid (by rw [en.2]; exact hcnt)
            have HPS7 : Hid (∀ j, i + 1 ≤ j → PP j = false) := Lib.hid fun j hj => HPS.out j (by omega)
            clear hy0 en HV hne
            go_wp2
            go_roundw
            case rel => exact ⟨i + 1, PP, FF, av, cv, by go_num, HVE.out, by omega, HV6, HW, HNE7.out, HPE, HPS7, HCN.out, hlw, hbel⟩
            case measure => simp [intOf]; omega
        · have hd2 : decide ((m.length : Int) < (l.length : Int) - (cntN PP i : Nat)) = false := decide_eq_false h2
          have hcb : ((cntN PP i : Nat) : Int) ≤ 10 := by omega
          have hst := cntN_stop HPS.out (l.length - i)
          have hss := selL_stop idS HPS.out (l.length - i)
          rw [show i + (l.length - i) = l.length by omega] at hst hss
          have HNUM := Lib.hid (gaps_num k1 (P := PP) (F := FF) HPE.out (by rw [hst]; omega))
          have hGL : (selL PP idS l.length).length = cntN PP i := by rw [selL_len, hst]
          have HGS : Hid (Src wr av (selL PP idS l.length).length (lf (selL PP idS l.length))) := Lib.hid (by
            rw [hGL, hss]
            obtain ⟨a9, c9, e9, _, s9⟩ := src_of_owns2 HV.out
            injection e9 with q1 q2 q3
            rw [← q1] at s9
            exact s9)
          have HYS : Hid (Src wr (some ⟨gw, 0, none⟩) l.length FF) := Lib.hid HW.out.src
          have HX9 := Lib.hid (HX2.out.src.keep hbel)
          have HM9 := Lib.hid (HM2.out.src.keep hbel)
          have HCPX := Lib.hid (cp_lc a l cap wr (by omega) HX9.out)
          have c9 := below_step HB1.out hbel
          have hGle : (selL PP idS l.length).length ≤ 10 := by rw [hGL]; have := cntN_le PP i; omega
          have hd3 : decide ((m.length : Int) < (l.length : Int) - ((selL PP idS l.length).length : Nat)) = false := by rw [hGL]; exact hd2
          rw [← hGL]
          clear hst hss hGL HV HW HPE HPS hne hlw
          go_wp2_with fail
          refine HCPX.out.mono ?_
          rintro e w5 ⟨p5, d5, rfl, s5, b5⟩
          have HCPY := Lib.hid (cp_y (some ⟨gw, 0, none⟩) FF l.length cw w5 (by omega) (HYS.out.keep b5))
          have HS5 := Lib.hid s5
          have HG5 := Lib.hid (HGS.out.keep b5)
          have HM5 := Lib.hid (HM9.out.keep b5)
          have c5 := below_step c9 b5
          clear s5 b5 HCPX HYS HGS HM9 HX9 c9
          go_wp2_with fail
          refine HCPY.out.mono ?_
          rintro e w6 ⟨p6, d6, rfl, s6, b6⟩
          have HCPG := Lib.hid (cp_lc av (selL PP idS l.length) cv w6 (by omega) (HG5.out.keep b6))
          have HS6 := Lib.hid (HS5.out.keep b6)
          have HY6 := Lib.hid s6
          have HM6 := Lib.hid (HM5.out.keep b6)
          have c6 := below_step c5 b6
          clear s6 b6 HCPY HS5 HG5 HM5 c5
          go_wp2_with fail
          refine HCPG.out.mono ?_
          rintro e w7 ⟨p7, d7, rfl, s7, b7⟩
          have c7 := below_step c6 b7
          have HDG := iDecodeGaps f p5 l d5 p6 (tab l.length FF) d6 (m.length : Int) p7 (selL PP idS l.length) d7 w7 (by omega) (by rw [tab_len]; omega) (by omega) (HS6.out.keep b7) (HY6.out.keep b7) s7 (HT.out.below c7) (HG.out.below c7)
          rw [HNUM.out.1, HNUM.out.2.1, HNUM.out.2.2] at HDG
          have HDD := Lib.hid HDG
          have HM7 := Lib.hid (HM6.out.keep b7)
          clear s7 b7 HCPG HDG HS6 HY6 HM6 c6 HNUM
          go_wp2_with fail
          refine HDD.out.mono ?_
          rintro e w8 ⟨p8, d8, rfl, o8, b8⟩
          have c8 := below_step c7 b8
          have HSM := Lib.hid (sameZ p8 a2 m d8 cap2 w8 (by omega) o8.src (HM7.out.keep b8))
          clear o8 b8 HDD HM7 c7
          go_wp2_with fail
          refine HSM.out.mono ?_
          rintro e w9 ⟨rfl, b9⟩
          have c10 := below_step c8 b9
          go_wp2
          go_ret
          exact ⟨rfl, c10⟩
      · have hd1 : decide ((i : Int) < l.length) = false := decide_eq_false (by omega)
        have hst := cntN_stop HPS.out (l.length - i)
        have hss := selL_stop idS HPS.out (l.length - i)
        rw [show i + (l.length - i) = l.length by omega] at hst hss
        have HNUM := Lib.hid (gaps_num k1 (P := PP) (F := FF) HPE.out (by rw [hst]; omega))
        have hGL : (selL PP idS l.length).length = cntN PP i := by rw [selL_len, hst]
        have HGS : Hid (Src wr av (selL PP idS l.length).length (lf (selL PP idS l.length))) := Lib.hid (by
          rw [hGL, hss]
          obtain ⟨a9, c9, e9, _, s9⟩ := src_of_owns2 HV.out
          injection e9 with q1 q2 q3
          rw [← q1] at s9
          exact s9)
        have HYS : Hid (Src wr (some ⟨gw, 0, none⟩) l.length FF) := Lib.hid HW.out.src
        have HX9 := Lib.hid (HX2.out.src.keep hbel)
        have HM9 := Lib.hid (HM2.out.src.keep hbel)
        have HCPX := Lib.hid (cp_lc a l cap wr (by omega) HX9.out)
        have c9 := below_step HB1.out hbel
        have hGle : (selL PP idS l.length).length ≤ 10 := by rw [hGL]; have := cntN_le PP i; omega
        rw [← hGL]
        clear hst hss hGL HV HW HPE HPS hne hlw
        go_wp2_with fail
        refine HCPX.out.mono ?_
        rintro e w5 ⟨p5, d5, rfl, s5, b5⟩
        have HCPY := Lib.hid (cp_y (some ⟨gw, 0, none⟩) FF l.length cw w5 (by omega) (HYS.out.keep b5))
        have HS5 := Lib.hid s5
        have HG5 := Lib.hid (HGS.out.keep b5)
        have HM5 := Lib.hid (HM9.out.keep b5)
        have c5 := below_step c9 b5
        clear s5 b5 HCPX HYS HGS HM9 HX9 c9
        go_wp2_with fail
        refine HCPY.out.mono ?_
        rintro e w6 ⟨p6, d6, rfl, s6, b6⟩
        have HCPG := Lib.hid (cp_lc av (selL PP idS l.length) cv w6 (by omega) (HG5.out.keep b6))
        have HS6 := Lib.hid (HS5.out.keep b6)
        have HY6 := Lib.hid s6
        have HM6 := Lib.hid (HM5.out.keep b6)
        have c6 := below_step c5 b6
        clear s6 b6 HCPY HS5 HG5 HM5 c5
        go_wp2_with fail
        refine HCPG.out.mono ?_
        rintro e w7 ⟨p7, d7, rfl, s7, b7⟩
        have c7 := below_step c6 b7
        have HDG := iDecodeGaps f p5 l d5 p6 (tab l.length FF) d6 (m.length : Int) p7 (selL PP idS l.length) d7 w7 (by omega) (by rw [tab_len]; omega) (by omega) (HS6.out.keep b7) (HY6.out.keep b7) s7 (HT.out.below c7) (HG.out.below c7)
        rw [HNUM.out.1, HNUM.out.2.1, HNUM.out.2.2] at HDG
        have HDD := Lib.hid HDG
        have HM7 := Lib.hid (HM6.out.keep b7)
        clear s7 b7 HCPG HDG HS6 HY6 HM6 c6 HNUM
        go_wp2_with fail
        refine HDD.out.mono ?_
        rintro e w8 ⟨p8, d8, rfl, o8, b8⟩
        have c8 := below_step c7 b8
        have HSM := Lib.hid (sameZ p8 a2 m d8 cap2 w8 (by omega) o8.src (HM7.out.keep b8))
        clear o8 b8 HDD HM7 c7
        go_wp2_with fail
        refine HSM.out.mono ?_
        rintro e w9 ⟨rfl, b9⟩
        have c10 := below_step c8 b9
        go_wp2
        go_ret
        exact ⟨rfl, c10⟩
  · have RN := sEncodeWord f a l cap a2 m cap2 w1 (by omega) (by omega) HX1.out HM1.out
    rw [show mEncodeWord f l m = [] by unfold mEncodeWord; rw [if_neg k1]] at RN
    have HRN := Lib.hid RN
    clear RN
    go_wp2_with fail
    refine HRN.out.mono ?_
    rintro e w2 ⟨p2, d2, rfl, _, b2⟩
    have c2 := below_step HB1.out b2
    go_wp2
    go_ret
    exact ⟨rfl, c2⟩
end Go.Proofs.YtangofjpnhhfeabDoor
