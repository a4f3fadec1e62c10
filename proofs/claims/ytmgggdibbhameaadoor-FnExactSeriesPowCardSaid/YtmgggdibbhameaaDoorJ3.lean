/-
  Texts of the proofs of this seat, joined (part 3).
-/
import Derived.Test.YtmgggdibbhameaaDoorJ2
namespace Go.Proofs.YtmgggdibbhameaaDoor
open Go.RowKit
theorem OwnV.grown {g : Nat} {w w' : World} {g2 n cap : Nat} {F : Nat → Int} (h : OwnV w g2 n cap F) (hg : w.grownBy w' (some g)) (hne : g2 ≠ g) : OwnV w' g2 n cap F := by
  obtain ⟨V, h1, h2, h3⟩ := h
  have hlt := OwnV.lt ⟨V, h1, h2, h3⟩
  exact ⟨V, World.rowIs.of_block h1 (hg.block g2 hlt (fun e => by injection e with e; exact hne e)), h2, h3⟩
/-- A drawn list, whose row may still be written. -/
def ZVal (g : Nat) (w : World) (n : Nat) (v : Value) (w' : World) : Prop := ∃ l : List Int, l.length ≤ n ∧ (∃ B, g < B ∧ w.heap.size ≤ B ∧ w'.ownsRow B 3 1 v l.length (xsF (lf l) l.length)) ∧ Cur g w' ∧ w.grownBy w' (some g)
theorem ZVal.of {g : Nat} {w w' : World} {n : Nat} {v : Value} (hB : g < w.heap.size) (h : ZAt g w w' v n) : ZVal g w n v w' := by
  obtain ⟨⟨F, ho⟩, hc, hg, hs⟩ := h
  exact ⟨tab n F, by rw [tab_len]; exact Nat.le_refl _, ⟨w.heap.size, hB, Nat.le_refl _, owns_to_tab ho⟩, hc, hg⟩
theorem ZVal.grown {g : Nat} {w w1 w2 : World} {n : Nat} {v : Value} (h : ZVal g w n v w1) (hg : w1.grownBy w2 (some g)) (hc : Cur g w2) : ZVal g w n v w2 := by
  obtain ⟨l, hl, ⟨B, hB, hB2, ho⟩, _, hg1⟩ := h
  exact ⟨l, hl, ⟨B, hB, hB2, ho.kept hg (zown_ne hB ho)⟩, hc, hg1.trans hg⟩
/-- The value is a slice: empty, or a row that can be written. -/
theorem ZVal.cases {g : Nat} {w w1 : World} {n : Nat} {v : Value} (h : ZVal g w n v w1) : ∃ (l : List Int) (a : Option Addr) (cap : Nat), v = .slice a l.length cap ∧ l.length ≤ n ∧ (l.length = 0 ∨ ∃ g2, a = some ⟨g2, 0, none⟩ ∧ g2 ≠ g ∧ w.heap.size ≤ g2 ∧ OwnV w1 g2 l.length cap (lf l)) := by
  obtain ⟨l, hl, ⟨B, hB, hB2, ho⟩, hc, hg⟩ := h
  by_cases hz : l.length = 0
  · obtain ⟨a, cap, rfl, hcap, hs⟩ := SrcO.of ho hB
    exact ⟨l, a, cap, rfl, hl, .inl hz⟩
  · obtain ⟨g2, cap, rfl, hg2, ho2⟩ := OwnV.of_owns ho hz
    exact ⟨l, _, cap, rfl, hl, .inr ⟨g2, rfl, by omega, by omega, ho2⟩⟩
end Go.Proofs.YtmgggdibbhameaaDoor
namespace Go.Proofs.YtmgggdibbhameaaDoor
open Go.RowKit
/-- A row that was drawn. -/
def SK (g : Nat) (w W : World) (g2 n cap : Nat) : Prop := (∃ F : Nat → Int, OwnV W g2 n cap F) ∧ g2 ≠ g ∧ w.heap.size ≤ g2 ∧ Cur g W ∧ w.grownBy W (some g)
theorem SK.grown {g : Nat} {w W W' : World} {g2 n cap : Nat} (h : SK g w W g2 n cap) (hg : W.grownBy W' (some g)) (hc : Cur g W') : SK g w W' g2 n cap := by
  obtain ⟨⟨F, ho⟩, hne, h2, _, hw⟩ := h
  exact ⟨⟨F, ho.grown hg hne⟩, hne, h2, hc, hw.trans hg⟩
theorem SK.put {g : Nat} {w W : World} {g2 n cap k : Nat} {y : Int} (h : SK g w W g2 n cap) (hB : g < w.heap.size) : SK g w (W.setCell ⟨g2, k, none⟩ (.int .i64 y)) g2 n cap := by
  obtain ⟨⟨F, ho⟩, hne, h2, hc, hw⟩ := h
  have hset : W.grownBy (W.setCell ⟨g2, k, none⟩ (.int .i64 y)) (some g2) := grown_set (World.grownBy.refl _ _) _ _
  exact ⟨⟨upd F k y, ho.set⟩, hne, h2, hc.other hset (fun r hr => by injection hr with hr; omega), grown_new hw hset (fun r hr => by injection hr with hr; omega)⟩
/-- A list in a row that may be written, from block B on. -/
def WrB (W : World) (B : Nat) (a : Option Addr) (l : List Int) (cap : Nat) : Prop := l.length = 0 ∨ ∃ g2, a = some ⟨g2, 0, none⟩ ∧ B ≤ g2 ∧ OwnV W g2 l.length cap (lf l)
def WrG (W : World) (B g : Nat) (a : Option Addr) (l : List Int) (cap : Nat) : Prop := l.length = 0 ∨ ∃ g2, a = some ⟨g2, 0, none⟩ ∧ g2 ≠ g ∧ B ≤ g2 ∧ OwnV W g2 l.length cap (lf l)
theorem WrG.wr {W : World} {B g : Nat} {a : Option Addr} {l : List Int} {cap : Nat} (h : WrG W B g a l cap) : WrB W B a l cap := by
  rcases h with h | ⟨g2, h1, _, h2, h3⟩
  · exact .inl h
  · exact .inr ⟨g2, h1, h2, h3⟩
theorem WrG.grown {W W' : World} {B g : Nat} {a : Option Addr} {l : List Int} {cap : Nat} (h : WrG W B g a l cap) (hg : W.grownBy W' (some g)) : WrG W' B g a l cap := by
  rcases h with h | ⟨g2, h1, hne, h2, h3⟩
  · exact .inl h
  · exact .inr ⟨g2, h1, hne, h2, h3.grown hg hne⟩
theorem WrB.src {W : World} {B : Nat} {a : Option Addr} {l : List Int} {cap : Nat} (h : WrB W B a l cap) : Src W a l.length (lf l) := by
  rcases h with h | ⟨g2, rfl, _, h3⟩
  · exact .inl h
  · exact h3.src
theorem WrB.keep {W W' : World} {B : Nat} {a : Option Addr} {l : List Int} {cap : Nat} (h : WrB W B a l cap) (hb : Below W.heap.size W W') : WrB W' B a l cap := by
  rcases h with h | ⟨g2, h1, h2, h3⟩
  · exact .inl h
  · exact .inr ⟨g2, h1, h2, h3.keep hb⟩
end Go.Proofs.YtmgggdibbhameaaDoor
namespace Go.Proofs.YtmgggdibbhameaaDoor
open Go.RowKit
/-- A list that is read, and its capacity. -/
def SrcC (w : World) (a : Option Addr) (n cap : Nat) (F : Nat → Int) : Prop := n ≤ cap ∧ Src w a n F
theorem SrcC.src {w : World} {a : Option Addr} {n cap : Nat} {F : Nat → Int} (h : SrcC w a n cap F) : Src w a n F := h.2
theorem SrcC.keep {w w' : World} {a : Option Addr} {n cap : Nat} {F : Nat → Int} (h : SrcC w a n cap F) (hb : Below w.heap.size w w') : SrcC w' a n cap F := ⟨h.1, h.2.keep hb⟩
theorem OwnA.srcC {w : World} {B : Nat} {a : Option Addr} {l : List Int} {cap : Nat} (h : OwnA w B a l cap) : SrcC w a l.length cap (lf l) :=
  ⟨by
    rcases h with ⟨_, h1, h2⟩ | ⟨_, _, h1, _⟩
    · omega
    · omega, h.src⟩
end Go.Proofs.YtmgggdibbhameaaDoor
namespace Go.Proofs.YtmgggdibbhameaaDoor
open Go.RowKit
theorem iSeriesOk (f : Int) (a : Option Addr) (l : List Int) (cap : Nat) (w : World) (hn : l.length ≤ 1048576) (hs : Src w a l.length (lf l)) (ht : Tab w) : Calls Tryd.prog 13 #[.int .i64 f, .slice a l.length cap] w (SameB w (mSeriesOk f l)) := by
  by_cases hk : 0 ≤ f ∧ f ≤ 8
  · have HK := Lib.hid (known_yes f w hk.1 hk.2)
    by_cases hz : l.length = 0
    · rw [sok_not.2 fun h => by have := h.2.1.1; omega]
      obtain rfl : l = [] := List.eq_nil_of_length_eq_zero hz
      clear hs hz
      show Calls Tryd.prog 13 #[.int .i64 f, .slice a 0 cap] w (SameB w false)
      go_enter Tryd.func13, Tryd.ntmps13
      go_wp2_with fail
      refine HK.out.mono ?_
      rintro e w' ⟨rfl, rfl⟩
      go_wp2
      go_ret
      exact ⟨rfl, rfl⟩
    · have hd : decide ((0 : Int) < l.length) = true := decide_eq_true (by omega)
      by_cases h64 : l.length ≤ 64
      · have hd2 : decide ((l.length : Int) ≤ 64) = true := decide_eq_true (by omega)
        have HA : Hid (Calls Tryd.prog 34 #[.int .i64 f, .slice a l.length cap] w (SameB w (mSeriesOk f l))) := Lib.hid (hasAll_c f a l cap w ht hk.1 hk.2 hn hs (mSeriesOk f l) (by
          rw [sok_iff]
          exact ⟨fun h => h.2.2, fun h => ⟨hk, by omega, h⟩⟩))
        clear hs
        generalize mSeriesOk f l = B at *
        go_enter Tryd.func13, Tryd.ntmps13
        go_wp2_with fail
        refine HK.out.mono ?_
        rintro e w' ⟨rfl, rfl⟩
        go_wp2_with fail
        refine HA.out.mono ?_
        rintro e w' ⟨rfl, rfl⟩
        go_wp2
        go_ret
        exact ⟨rfl, rfl⟩
      · have hd2 : decide ((l.length : Int) ≤ 64) = false := decide_eq_false (by omega)
        rw [sok_not.2 fun h => by have := h.2.1.2; omega]
        clear hs
        go_enter Tryd.func13, Tryd.ntmps13
        go_wp2_with fail
        refine HK.out.mono ?_
        rintro e w' ⟨rfl, rfl⟩
        go_wp2
        go_ret
        exact ⟨rfl, rfl⟩
  · have HK := Lib.hid (known_no f w (by omega))
    rw [sok_not.2 fun h => hk h.1]
    clear hs hk
    go_enter Tryd.func13, Tryd.ntmps13
    go_wp2_with fail
    refine HK.out.mono ?_
    rintro e w' ⟨rfl, rfl⟩
    go_wp2
    go_ret
    exact ⟨rfl, rfl⟩
theorem iSeriesOkB (f : Int) (a : Option Addr) (l : List Int) (cap : Nat) (w : World) (hn : l.length ≤ 1048576) (hs : Src w a l.length (lf l)) (ht : Tab w) : Calls Tryd.prog 13 #[.int .i64 f, .slice a l.length cap] w (BoolP w (mSeriesOk f l)) :=
  (iSeriesOk f a l cap w hn hs ht).mono fun _ _ h => by
    obtain ⟨rfl, rfl⟩ := h
    exact ⟨rfl, Below.refl _ _⟩
theorem areComp_c (f : Int) (a : Option Addr) (l : List Int) (cap : Nat) (a2 : Option Addr) (m : List Int) (cap2 : Nat) (w : World) (hn : l.length ≤ 1048576) (hn2 : m.length ≤ 1048576) (hs : Src w a l.length (lf l)) (hs2 : Src w a2 m.length (lf m)) (ht : Tab w) : Calls Tryd.prog 38 #[.int .i64 f, .slice a l.length cap, .slice a2 m.length cap2] w (SameB w (mFit f l m)) := by
  have H1 := Lib.hid (iSeriesOk f a l cap w hn hs ht)
  have H2 := Lib.hid (iSeriesOk f a2 m cap2 w hn2 hs2 ht)
  clear hs hs2
  by_cases hlm : l.length = m.length
  · have hd : ((l.length : Int) == m.length) = true := by rw [beq_iff_eq]; omega
    by_cases h1 : SerOk f l
    · have e : mFit f l m = mSeriesOk f m := by
        by_cases h2 : SerOk f m
        · rw [sok_iff.2 h2]
          unfold mFit
          simp only [decide_eq_true_eq]
          exact ⟨hlm, h1, h2⟩
        · rw [sok_not.2 h2]
          unfold mFit
          simp only [decide_eq_false_iff_not]
          exact fun h => h2 h.2.2
      rw [e]
      rw [sok_iff.2 h1] at H1
      clear hlm h1 e
      generalize mSeriesOk f m = B at *
      go_enter Tryd.func38, Tryd.ntmps38
      go_wp2_with fail
      refine H1.out.mono ?_
      rintro e w' ⟨rfl, rfl⟩
      go_wp2_with fail
      refine H2.out.mono ?_
      rintro e w' ⟨rfl, rfl⟩
      go_wp2
      go_ret
      exact ⟨rfl, rfl⟩
    · have e : mFit f l m = false := by
        unfold mFit
        simp only [decide_eq_false_iff_not]
        exact fun h => h1 h.2.1
      rw [e]
      rw [sok_not.2 h1] at H1
      clear hlm h1 e
      go_enter Tryd.func38, Tryd.ntmps38
      go_wp2_with fail
      refine H1.out.mono ?_
      rintro e w' ⟨rfl, rfl⟩
      go_wp2
      go_ret
      exact ⟨rfl, rfl⟩
  · have hd : ((l.length : Int) == m.length) = false := by rw [beq_eq_false_iff_ne]; omega
    have e : mFit f l m = false := by
      unfold mFit
      simp only [decide_eq_false_iff_not]
      exact fun h => hlm h.1
    rw [e]
    clear hlm e
    go_enter Tryd.func38, Tryd.ntmps38
    go_wp2
    go_ret
    exact ⟨rfl, rfl⟩
open Classical in
noncomputable def mStarts (f : Int) (l : List Int) (x : Int) : Bool := decide (SerOk f l ∧ lf l 0 = x)
theorem starts_c (f : Int) (a : Option Addr) (l : List Int) (cap : Nat) (x : Int) (w : World) (hn : l.length ≤ 1048576) (hs : Src w a l.length (lf l)) (ht : Tab w) : Calls Tryd.prog 47 #[.int .i64 f, .slice a l.length cap, .int .i64 x] w (SameB w (mStarts f l x)) := by
  have H1 := Lib.hid (iSeriesOk f a l cap w hn hs ht)
  by_cases h1 : SerOk f l
  · have n1 := h1.2.1
    have e : mStarts f l x = (lf l 0 == x) := by
      unfold mStarts
      by_cases h2 : lf l 0 = x
      · simp [h1, h2]
      · simp [h2]
    rw [e]
    rw [sok_iff.2 h1] at H1
    rcases hs with hz | ⟨b, off, rfl, hlt, hc⟩
    · omega
    have c0 : w.cell? ⟨b, off, none⟩ = some (.int .i64 (lf l 0)) := by have := hc 0 (by omega); rwa [Nat.add_zero] at this
    have n0 : (0 : Int) < (l.length : Int) := by omega
    have n0' : 0 < l.length := by omega
    clear hc h1 e
    generalize lf l 0 = A0 at *
    go_enter Tryd.func47, Tryd.ntmps47
    go_wp2_with fail
    refine H1.out.mono ?_
    rintro e w' ⟨rfl, rfl⟩
    go_wp2
    go_ret
    exact ⟨rfl, rfl⟩
  · have e : mStarts f l x = false := by
      unfold mStarts
      simp [h1]
    rw [e]
    rw [sok_not.2 h1] at H1
    clear hs h1 e
    go_enter Tryd.func47, Tryd.ntmps47
    go_wp2_with fail
    refine H1.out.mono ?_
    rintro e w' ⟨rfl, rfl⟩
    go_wp2
    go_ret
    exact ⟨rfl, rfl⟩
theorem hasInt_c (f : Int) (a : Option Addr) (n cap : Nat) (w : World) (h0 : 0 ≤ f) (h8 : f ≤ 8) (ht : Tab w) : Calls Tryd.prog 45 #[.int .i64 f, .slice a n cap] w (SameB w (decide ((n : Int) ≤ P f))) := by
  have H := Lib.hid (prime_c f w ht h0 h8)
  go_enter Tryd.func45, Tryd.ntmps45
  go_wp2_with fail
  refine H.out.mono ?_
  rintro e w' ⟨rfl, rfl⟩
  go_wp2
  go_ret
  exact ⟨rfl, rfl⟩
end Go.Proofs.YtmgggdibbhameaaDoor
namespace Go.Proofs.YtmgggdibbhameaaDoor
open Go.RowKit
/-- The exponential so far. -/
def EQ (f : Int) (l r : List Int) : Prop := (∀ j, 0 ≤ lf r j ∧ lf r j < P f) ∧ lf r 0 = 1 ∧ IsLog (P f) r.length (lf l) (lf r)
noncomputable def expD (f : Int) (l r : List Int) (m : Nat) : List Int := elL f m (mixS (lf l) (lf (logL f (padL r m))) (P f - 1))
noncomputable def expE (f : Int) (l r : List Int) (m : Nat) : List Int := elL f m (mulS (lf r) (lf (expD f l r m)))
noncomputable def expR (f : Int) (l r : List Int) (m : Nat) : List Int := elL f m (mixS (lf r) (lf (expE f l r m)) 1)
theorem pad_log {f : Int} {l r : List Int} {m : Nat} (hl : ShortOk f l) (hb : ∀ j, 0 ≤ lf r j ∧ lf r j < P f) (hz : lf r 0 = 1) (m1 : 1 ≤ m) (hrm : r.length ≤ m) (hmn : m ≤ l.length) : LogOk f (padL r m) ∧ lf (padL r m) = lf r := by
  have e : lf (padL r m) = lf r := funext fun j => lf_padL r hrm j
  refine ⟨⟨⟨⟨hl.1.1, by rw [padL_len]; exact ⟨m1, Nat.le_trans hmn hl.1.2.1.2⟩, fun j _ => by rw [e]; exact hb j⟩, ?_⟩, by rw [e]; exact hz⟩, e⟩
  have := hl.2
  rw [padL_len]
  omega
theorem exp_step {f : Int} {l r : List Int} {m : Nat} (hl : ExpOk f l) (r1 : 1 ≤ r.length) (hrm : r.length ≤ m) (hm : m ≤ 2 * r.length) (hmn : m ≤ l.length) (hq : EQ f l r) : EQ f l (expR f l r m) := by
  have h0 := hl.1.1.1.1
  have h8 := hl.1.1.1.2
  have hp := P_bd h0 h8
  obtain ⟨hb, hz, hlog⟩ := hq
  obtain ⟨hlo, e⟩ := pad_log hl.1 hb hz (by omega) hrm hmn
  have hL : lf (logL f (padL r m)) 0 = 0 ∧ IsLog (P f) m (lf (logL f (padL r m))) (lf r) := by
    obtain ⟨_, x2, x3⟩ := logL_is hlo.1 hlo.2
    rw [e, padL_len] at x3
    exact ⟨x2, x3⟩
  have hl0 : lf l 0 = 0 := hl.2
  have hD0 : lf (expD f l r m) 0 = 0 := by
    unfold expD
    rw [lf_elL, if_pos (by omega)]
    show RS (lf l 0 + (P f - 1) * lf (logL f (padL r m)) 0) (P f) = 0
    rw [hl0, hL.1]
    simp [RS]
  have hE0 : lf (expE f l r m) 0 = 0 := by
    unfold expE
    rw [lf_elL, if_pos (by omega)]
    show RS (cv 0 (lf r) (lf (expD f l r m))) (P f) = 0
    rw [cv_ipar, hD0]
    simp [ipar, sumN, RS]
  refine ⟨(elL_ser h0 h8 _ _).2, ?_, ?_⟩
  · unfold expR
    rw [lf_elL, if_pos (by omega)]
    show RS (lf r 0 + 1 * lf (expE f l r m) 0) (P f) = 1
    rw [hE0, hz]
    show (1 + 1 * 0 : Int) % P f = 1
    exact one_p h0 h8
  · unfold expR
    rw [elL_len]
    have h := exp_dbl h0 h8 hrm hm (by have := hl.1.2; omega) hlog hL.2 (by rw [hz]; exact one_ne h0 h8) (by rw [hl0]; rfl) (by rw [hL.1]; rfl) (D := lf (expD f l r m)) (elL_eq m _)
    refine h.congr (EqN.refl _ _ _) ?_
    exact (elL_eq m _).trans ((EqN.refl _ _ _).mix _ (elL_eq m _))
set_option maxRecDepth 100000 in
set_option maxHeartbeats 3200000 in
theorem expStep_c (f : Int) (B1 B2 b off cap g m : Nat) (l r : List Int) (W : World) (ht : Tab W) (hl : ExpOk f l) (hk : BoxP f (.slice (some ⟨b, off, none⟩) l.length cap) B1 B2 W) (hmn : m ≤ l.length) (hcap : l.length ≤ cap)
    (hs : Src W (some ⟨b, off, none⟩) l.length (lf l)) (r1 : 1 ≤ r.length) (hrm : r.length ≤ m) (hm2 : m ≤ 2 * r.length) (hq : EQ f l r) (ho : Own W g m (lf r)) :
    Calls Tryd.prog 64 #[.slice (some ⟨g, 0, none⟩) m m, .pointer (some ⟨B1, 0, none⟩), .pointer (some ⟨B2, 0, none⟩)] W (fun e W' => ∃ r' : List Int, r'.length = m ∧ EQ f l r' ∧ OwnG W r' e W') := by
  have h0 := hl.1.1.1.1
  have h8 := hl.1.1.1.2
  have hp := P_bd h0 h8
  have HST := Lib.hid (exp_step hl r1 hrm hm2 hmn hq)
  have l1 := cell_lt hk.1
  have l2 := cell_lt hk.2
  have hcm : (m : Int) ≤ cap := by omega
  have hn64 := hl.1.1.2.1.2
  have m1 : 1 ≤ m := by omega
  obtain ⟨hb, hz, _⟩ := hq
  obtain ⟨hlo, ep⟩ := pad_log hl.1 hb hz m1 hrm hmn
  have hL := (logL_is hlo.1 hlo.2).1
  rw [padL_len] at hL
  have P0 : Hid (∀ W1, Below W.heap.size W W1 → Calls Tryd.prog 48 #[.int .i64 f, .slice (some ⟨g, 0, none⟩) m m] W1 (fun e w' => ∃ g1, e = .returned (.slice (some ⟨g1, 0, none⟩) m m) ∧ W1.heap.size ≤ g1 ∧ Own w' g1 m (lf (logL f (padL r m))) ∧ Below W1.heap.size W1 w')) := Lib.hid fun W1 hb1 => by
    have hs1 : Src W1 (some ⟨g, 0, none⟩) (padL r m).length (lf (padL r m)) := by rw [padL_len, ep]; exact ho.src.keep hb1
    have := logarithm_c f (some ⟨g, 0, none⟩) (padL r m) m W1 (ht.below hb1) hlo (by rw [padL_len]; exact Nat.le_refl _) hs1
    rw [padL_len] at this
    exact this.mono fun _ _ h => h.as hL.1
  have P1 : Hid (∀ (g1 : Nat) W1, Below W.heap.size W W1 → Own W1 g1 m (lf (logL f (padL r m))) → Calls Tryd.prog 60 #[.int .i64 f, .slice (some ⟨b, off, none⟩) m cap, .slice (some ⟨g1, 0, none⟩) m m, .int .i64 (P f - 1)] W1 (fun e w' => ∃ g3, e = .returned (.slice (some ⟨g3, 0, none⟩) m m) ∧ W1.heap.size ≤ g3 ∧ Own w' g3 m (lf (expD f l r m)) ∧ Below W1.heap.size W1 w')) := Lib.hid fun g1 W1 hb1 o1 =>
    (mixed_c f (P f - 1) _ _ m cap m (lf l) _ W1 (ht.below hb1) h0 h8 (by omega) (by omega) m1 (by omega) hl.1.1.all hL.2 ((hs.less hmn).keep hb1) o1.src).mono fun _ _ h => h.as (elL_len _ _ _)
  have P2 : Hid (∀ (g1 : Nat) W1, Below W.heap.size W W1 → Own W1 g1 m (lf (expD f l r m)) → Calls Tryd.prog 39 #[.int .i64 f, .slice (some ⟨g, 0, none⟩) m m, .slice (some ⟨g1, 0, none⟩) m m] W1 (fun e w' => ∃ g2, e = .returned (.slice (some ⟨g2, 0, none⟩) m m) ∧ W1.heap.size ≤ g2 ∧ Own w' g2 m (lf (expE f l r m)) ∧ Below W1.heap.size W1 w')) := Lib.hid fun g1 W1 hb1 o1 =>
    (sprod_c f _ _ m m m (lf r) _ W1 (ht.below hb1) h0 h8 m1 (by omega) (Nat.le_refl _) hb (elL_ser h0 h8 _ _).2 (ho.src.keep hb1) o1.src).mono fun _ _ h => h.as (elL_len _ _ _)
  have P3 : Hid (∀ (g2 : Nat) W1, Below W.heap.size W W1 → Own W1 g2 m (lf (expE f l r m)) → Calls Tryd.prog 60 #[.int .i64 f, .slice (some ⟨g, 0, none⟩) m m, .slice (some ⟨g2, 0, none⟩) m m, .int .i64 1] W1 (fun e w' => ∃ g3, e = .returned (.slice (some ⟨g3, 0, none⟩) m m) ∧ W1.heap.size ≤ g3 ∧ Own w' g3 m (lf (expR f l r m)) ∧ Below W1.heap.size W1 w')) := Lib.hid fun g2 W1 hb1 o2 =>
    (mixed_c f 1 _ _ m m m (lf r) _ W1 (ht.below hb1) h0 h8 (by omega) (by omega) m1 (by omega) hb (elL_ser h0 h8 _ _).2 (ho.src.keep hb1) o2.src).mono fun _ _ h => h.as (elL_len _ _ _)
  have HPR : Hid (∀ W1, Below W.heap.size W W1 → Calls Tryd.prog 53 #[.int .i64 f] W1 fun e w' => e = .returned (.int .i64 (P f)) ∧ W1 = w') := Lib.hid fun W1 hb => prime_c f W1 (ht.below hb) h0 h8
  have HF : Hid (∀ (g3 : Nat) (W' : World), W.heap.size ≤ g3 → Own W' g3 m (lf (expR f l r m)) → Below W.heap.size W W' → ∃ r' : List Int, r'.length = m ∧ EQ f l r' ∧ OwnG W r' (.returned (.slice (some ⟨g3, 0, none⟩) m m)) W') := Lib.hid fun g3 W' hg3 o3 hb => ⟨_, elL_len _ _ _, HST.out, OwnG.mk' (elL_len _ _ _) hg3 o3 hb⟩
  have m0' : (0 : Int) < m := by omega
  have q1 : IntKind.i64.wrap (P f - 1) = P f - 1 := IntWalk.i64_in _ (by omega)
  have b0 : Below W.heap.size W W.drew := ⟨rfl, rfl, rfl, Nat.le_refl _, fun _ _ => rfl⟩
  have k0 : BoxP f (.slice (some ⟨b, off, none⟩) l.length cap) B1 B2 W.drew := hk
  clear hs hl ho HST ht hm2 r1 hb hz hlo ep hL hrm
  generalize lf (logL f (padL r m)) = L at *
  generalize lf (expD f l r m) = D at *
  generalize lf (expE f l r m) = E at *
  generalize lf (expR f l r m) = R at *
  generalize l.length = n at *
  go_enter Tryd.func64, Tryd.ntmps64
  go_wp2_with fail
  go_region_held3 (fun W1 => W1.cell? ⟨B1, 0, none⟩ = some (.int .i64 f) ∧ W1.cell? ⟨B2, 0, none⟩ = some (.slice (some ⟨b, off, none⟩) n cap))
    (first | exact hk | exact k0 | exact k1 | exact k2 | go_keep)
    (first
      | (go_at_call 48; refine (P0.out _ b0).mono ?_; rintro e w1 ⟨g1, rfl, hg1, o1, b1⟩; have b2 := below_up b0 b1 b0.size; have k1 := hk.keep b2 l1 l2)
      | (go_at_call 53; refine (HPR.out _ b2).mono ?_; rintro e w' ⟨rfl, rfl⟩)
      | (go_at_call 60; refine (P1.out g1 _ b2 o1).mono ?_; rintro e w2 ⟨g2, rfl, hg2, o2, b3⟩; have b4 := below_up b2 b3 b2.size; have k2 := hk.keep b4 l1 l2))
  have HO2 := Lib.hid o2
  clear o1 o2 b1 b2 b3 k1 P0 P1
  go_wp2_with fail
  have b5 := b4.drew
  have k3 : BoxP f (.slice (some ⟨b, off, none⟩) n cap) B1 B2 w2.drew := k2
  have o3 : Own w2.drew g2 m D := HO2.out
  go_region_held3 (fun W1 => W1.cell? ⟨B1, 0, none⟩ = some (.int .i64 f))
    (first | exact k2.1 | exact k3.1 | exact k4.1 | exact k5.1 | go_keep)
    (first
      | (go_at_call 39; refine (P2.out g2 _ b5 o3).mono ?_; rintro e w4 ⟨g3, rfl, hg3, o4, b6⟩; have b7 := below_up b5 b6 b5.size; have k4 := hk.keep b7 l1 l2)
      | (go_at_call 60; refine (P3.out g3 _ b7 o4).mono ?_; rintro e w5 ⟨g4, rfl, hg4, o5, b8⟩; have b9 := below_up b7 b8 b7.size; have k5 := hk.keep b9 l1 l2))
  all_goals
    have HR := Lib.hid (HF.out g4 _ (Nat.le_trans b7.size hg4) o5 b9)
    clear o3 o4 o5
    go_wp2
    go_ret
    exact HR.out
theorem exp_first {f : Int} {l : List Int} (hl : ExpOk f l) : EQ f l [1] := by
  have h0 := hl.1.1.1.1
  have h8 := hl.1.1.1.2
  have hp := P_bd h0 h8
  refine ⟨fun j => ?_, rfl, fun i hi => ?_⟩
  · cases j with
    | zero => show 0 ≤ (1 : Int) ∧ (1 : Int) < P f; omega
    | succ j => show 0 ≤ (0 : Int) ∧ (0 : Int) < P f; omega
  · have hi' : i < 1 := hi
    obtain rfl : i = 0 := by omega
    show (((0 : Nat) : Int) * lf [1] 0) % P f = cv 0 (thS (lf l)) (lf [1]) % P f
    rw [cv_ipar]
    show (((0 : Nat) : Int) * lf [1] 0) % P f = (((0 : Nat) : Int) * lf l 0 * lf [1] 0 + 0) % P f
    simp
theorem EQ.exp {f : Int} {l r : List Int} (hl : ExpOk f l) (hr : r.length = l.length) (hq : EQ f l r) : r = expL f l :=
  (expL_eq hl.1 ⟨⟨hr, hq.1⟩, hq.2.1, by have := hq.2.2; rwa [hr] at this⟩).symm
set_option maxRecDepth 100000 in
set_option maxHeartbeats 1600000 in
theorem exponential_c (f : Int) (a : Option Addr) (l : List Int) (cap : Nat) (w : World) (ht : Tab w) (h : ExpOk f l) (hcap : l.length ≤ cap) (hs : Src w a l.length (lf l)) :
    Calls Tryd.prog 49 #[.int .i64 f, .slice a l.length cap] w (OwnG w (expL f l)) := by
  have n1 := h.1.1.2.1
  obtain ⟨b, off, rfl, hlt, hc⟩ : ∃ b off, a = some ⟨b, off, none⟩ ∧ b < w.heap.size ∧ ∀ j, j < l.length → w.cell? ⟨b, off + j, none⟩ = some (.int .i64 (lf l j)) := by
    rcases hs with hq | hq
    · omega
    · exact hq
  have hs : Src w (some ⟨b, off, none⟩) l.length (lf l) := .inr ⟨b, off, rfl, hlt, hc⟩
  have HGR : Hid (∀ W, Below w.heap.size w W → BoxP f (.slice (some ⟨b, off, none⟩) l.length cap) w.heap.size (w.heap.size + 1) W → Calls Tryd.prog 57 #[.int .i64 1, .int .i64 l.length, .func (.func 64) #[] #[.pointer (some ⟨w.heap.size, 0, none⟩), .pointer (some ⟨w.heap.size + 1, 0, none⟩)]] W (OwnG W (expL f l))) := Lib.hid fun W hb hk => by
    have l2 := cell_lt hk.2
    refine (grown_c 64 (enters_of Tryd.func64 (by kernel_rfl) rfl) _ _ 1 l.length (EQ f l) W n1.1 (by omega) (exp_first h) fun W2 g m r hb2 hg r1 hrm hm2 hmn hq ho => ?_).mono ?_
    · have hb3 := below_up hb hb2 hb.size
      exact expStep_c f w.heap.size (w.heap.size + 1) b off cap g m l r W2 (ht.below hb3) h (hk.keep hb2 (by omega) l2) hmn hcap (hs.keep hb3) r1 hrm hm2 hq ho
    · rintro e W' ⟨r, hr, hq, ho⟩
      rwa [hq.exp h hr] at ho
  have BA : ∀ o1 o2, Below w.heap.size w ((w.alloc o1).alloc o2) := fun o1 o2 => ((Below.refl _ _).alloc (Nat.le_refl _) o1).alloc (by simp) o2
  have HOG : Hid (∀ e W W', Below w.heap.size w W → OwnG W (expL f l) e W' → OwnG w (expL f l) e W') := Lib.hid fun e W W' hb ho => ho.up hb
  clear h hs hc ht n1
  generalize expL f l = R at *
  generalize l.length = n at *
  have kb := box_new f (.slice (some ⟨b, off, none⟩) n cap) w 35 22
  have bb := BA (.cells #[.int .i64 f] 35) (.cells #[.slice (some ⟨b, off, none⟩) n cap] 22)
  go_enter Tryd.func49, Tryd.ntmps49
  go_wp2_with fail
  generalize ((w.alloc (.cells #[.int .i64 f] 35)).alloc (.cells #[.slice (some ⟨b, off, none⟩) n cap] 22)) = W1 at *
  refine (HGR.out _ bb kb).mono ?_
  intro e w4 h4
  have HR := Lib.hid (HOG.out e _ w4 bb h4)
  obtain ⟨g4, rfl, _⟩ := h4
  go_wp2
  go_ret
  exact HR.out
end Go.Proofs.YtmgggdibbhameaaDoor
namespace Go.Proofs.YtmgggdibbhameaaDoor
open Go.RowKit
/-- The root so far. -/
def RQ (f : Int) (l r : List Int) : Prop := (∀ j, 0 ≤ lf r j ∧ lf r j < P f) ∧ lf r 0 = 1 ∧ EqN (P f) r.length (mulS (lf r) (lf r)) (lf l)
theorem RQ.root {f : Int} {l r : List Int} (hl : SqrtOk f l) (hr : r.length = l.length) (hq : RQ f l r) : r = sqrtL f l :=
  (sqrtL_eq hl.1 ⟨⟨hr, hq.1⟩, hq.2.1, by have := hq.2.2; rwa [hr] at this⟩).symm
end Go.Proofs.YtmgggdibbhameaaDoor
namespace Go.Proofs.YtmgggdibbhameaaDoor
open Go.RowKit
theorem lf_one : lf [1] = oneS := by
  funext j
  cases j with
  | zero => rfl
  | succ j => simp [lf, oneS]
theorem one_cut : cutL 1 (fun _ => (1 : Int)) = [1] := rfl
theorem pol_one {f : Int} (h0 : 0 ≤ f) (h8 : f ≤ 8) : Pol f [1] := by
  have hp := P_bd h0 h8
  rw [← one_cut]
  exact Pol.cut (by omega) fun _ _ => by omega
theorem src_one (w : World) (x : Int) : Src (w.alloc (.cells #[.int .i64 x] 3)) (some ⟨w.heap.size, 0, none⟩) 1 (fun _ => x) :=
  .inr ⟨w.heap.size, 0, rfl, by simp, fun j hj => by
    obtain rfl : j = 0 := by omega
    rw [World.cell?_alloc_at _ _ _ _ rfl]; rfl⟩
set_option maxRecDepth 100000 in
set_option maxHeartbeats 3200000 in
theorem pow_c (f e0 : Int) (a a2 : Option Addr) (l m : List Int) (cap cap2 : Nat) (w : World) (ht : Tab w) (h0 : 0 ≤ f) (h8 : f ≤ 8) (hn : l.length ≤ 400) (hn2 : m.length ≤ 400) (hz : m.length ≠ 0) (he0 : 0 ≤ e0) (he1 : e0 ≤ 1000000) (hl : Pol f l) (hm : Pol f m) (hs : Src w a l.length (lf l)) (hs2 : Src w a2 m.length (lf m)) :
    Calls Tryd.prog 65 #[.int .i64 f, .slice a l.length cap, .int .i64 e0, .slice a2 m.length cap2] w (OwnG w (powL f l e0.toNat m)) := by
  have HS := Lib.hid hs
  have HS2 := Lib.hid hs2
  have HPL := Lib.hid hl
  have HPM := Lib.hid hm
  have HU : Hid (∀ r s, PowAt f m (lf l) e0.toNat 0 r s → powL f l e0.toNat m = r) := Lib.hid fun r s h => powL_eq h0 h8 hm h.last
  have HST : Hid (PowAt f m (lf l) e0.toNat e0.toNat (remL f [1] m) (remL f l m)) := Lib.hid (PowAt.first (by have := remL_is h0 h8 (pol_one h0 h8) hm hz; rwa [lf_one] at this) (remL_is h0 h8 hl hm hz))
  have BA : Hid (∀ o, Below w.heap.size w (w.alloc o)) := Lib.hid fun o => (Below.refl _ _).alloc (Nat.le_refl _) o
  clear hs hs2 hl hm
  obtain ⟨E, hE⟩ : ∃ E, e0.toNat = E := ⟨_, rfl⟩
  rw [hE] at HU HST ⊢
  have HEE := Lib.hid hE
  clear hE
  have HPO := Lib.hid (poly_c (some ⟨w.heap.size, 0, none⟩) 1 1 (fun _ => 1) (w.alloc (.cells #[.int .i64 1] 3)) (by omega) (src_one w 1))
  rw [one_cut] at HPO
  go_enter Tryd.func65, Tryd.ntmps65
  go_wp2_with fail
  refine HPO.out.mono ?_
  rintro e w1 ho1
  obtain ⟨g1, rfl, hg1, hO1, hb1⟩ := ho1.up (BA.out _)
  have HD1 := Lib.hid (remainder_c f (some ⟨g1, 0, none⟩) a2 [1] m 1 cap2 w1 (ht.below hb1) h0 h8 (by show 1 ≤ 4096; omega) (by omega) hz (pol_one h0 h8) HPM.out hO1.src (HS2.out.keep hb1))
  clear ho1 hO1 HPO
  go_wp2_with fail
  refine HD1.out.mono ?_
  rintro e w2 ⟨g2, rfl, hg2, hO2, hb2⟩
  have hb2' := below_up hb1 hb2 hb1.size
  have HD2 := Lib.hid (remainder_c f a a2 l m cap cap2 w2 (ht.below hb2') h0 h8 (by omega) (by omega) hz HPL.out HPM.out (HS.out.keep hb2') (HS2.out.keep hb2'))
  have HO2 := Lib.hid hO2
  clear hO2 HD1
  go_wp2_with fail
  refine HD2.out.mono ?_
  rintro e w3 ⟨g3, rfl, hg3, hO3, hb3⟩
  have HB3 := Lib.hid (below_up hb2' hb3 hb2'.size)
  have HO3 := Lib.hid (HO2.out.keep hb3)
  have HS3 := Lib.hid hO3.src
  have hgw : w.heap.size ≤ g2 := Nat.le_trans hb1.size hg2
  clear hO3 HO2 HD2 hb1 hb2 hb2' hb3
  go_wp2_with fail
  go_loopw [2, 9, 10] (fun ve vr vs wr => ∃ (k : Int) (r s : List Int) (gr : Nat) (sa : Option Addr) (cs : Nat), ve = .int .i64 k ∧ vr = .slice (some ⟨gr, 0, none⟩) r.length r.length ∧ vs = .slice sa s.length cs ∧ w.heap.size ≤ gr ∧ Own wr gr r.length (lf r) ∧ Src wr sa s.length (lf s) ∧ 0 ≤ k ∧ k ≤ 1000000 ∧ PowAt f m (lf l) E k.toNat r s ∧ Below w.heap.size w wr) (fun ve _ _ _ => (intOf ve).toNat)
  case atStart => exact ⟨e0, _, _, g2, _, _, rfl, rfl, rfl, hgw, HO3.out, HS3.out, he0, he1, by rw [HEE.out]; exact HST.out, HB3.out⟩
  case round =>
    clear HO3 HS3 HST HB3
    obtain ⟨k, r, s, gr, sa, cs, rfl, rfl, rfl, hgr, hor, hss, k0, k1, hat, hb⟩ := hrel
    have pr := hat.1.1
    have lr := hat.1.2
    have ps := hat.2.1.1
    have ls := hat.2.1.2
    by_cases hk : 0 < k
    · by_cases h2 : k % 2 = 1
      · have HM1 := Lib.hid (product_c f (some ⟨gr, 0, none⟩) sa r s r.length cs wr (ht.below hb) h0 h8 (by omega) (by omega) pr ps hor.src hss)
        have LM1 : (mulL f r s).length ≤ 4096 := by have := mulL_le f r s; omega
        have HPM1 : Hid (Pol f (mulL f r s)) := Lib.hid (pol_mulL h0 h8 r s)
        have HR1 : Hid (IsRem f (lf (mulL f r s)) m (remL f (mulL f r s) m)) := Lib.hid (remL_is h0 h8 HPM1.out HPM.out hz)
        have LM2 : (mulL f s s).length ≤ 4096 := by have := mulL_le f s s; omega
        have HPM2 : Hid (Pol f (mulL f s s)) := Lib.hid (pol_mulL h0 h8 s s)
        have HR2 : Hid (IsRem f (lf (mulL f s s)) m (remL f (mulL f s s) m)) := Lib.hid (remL_is h0 h8 HPM2.out HPM.out hz)
        have HN : Hid (PowAt f m (lf l) E (k / 2).toNat (remL f (mulL f r s) m) (remL f (mulL f s s) m)) := Lib.hid (by rw [show (k / 2).toNat = k.toNat / 2 by omega]; exact hat.odd (by omega) HR1.out HR2.out)
        have e2 : (k % 2 == 1) = true := by simp [h2]
        have HSS := Lib.hid hss
        have HPS := Lib.hid ps
        clear h2 hat hor hss pr ps
        go_wp2_with fail
        refine HM1.out.mono ?_
        rintro e w3 ⟨g3, rfl, hg3, ho3, hb3⟩
        have hb3' := below_up hb hb3 hb.size
        have HD1 := Lib.hid (remainder_c f (some ⟨g3, 0, none⟩) a2 (mulL f r s) m (mulL f r s).length cap2 w3 (ht.below hb3') h0 h8 LM1 (by omega) hz HPM1.out HPM.out ho3.src (HS2.out.keep hb3'))
        clear ho3 HM1
        go_wp2_with fail
        refine HD1.out.mono ?_
        rintro e w4 ⟨g4, rfl, hg4, ho4, hb4⟩
        have hb4' := below_up hb3' hb4 hb3'.size
        have hs4 := HSS.out.keep (below_up hb3 hb4 hb3.size)
        have HM2 := Lib.hid (product_c f sa sa s s cs cs w4 (ht.below hb4') h0 h8 (by omega) (by omega) HPS.out HPS.out hs4 hs4)
        have HO4 := Lib.hid ho4
        clear ho4 HD1 hs4
        go_wp2_with fail
        refine HM2.out.mono ?_
        rintro e w5 ⟨g5, rfl, hg5, ho5, hb5⟩
        have hb5' := below_up hb4' hb5 hb4'.size
        have HD2 := Lib.hid (remainder_c f (some ⟨g5, 0, none⟩) a2 (mulL f s s) m (mulL f s s).length cap2 w5 (ht.below hb5') h0 h8 LM2 (by omega) hz HPM2.out HPM.out ho5.src (HS2.out.keep hb5'))
        have HO5 := Lib.hid (HO4.out.keep hb5)
        clear ho5 HM2 HO4
        go_wp2_with fail
        refine HD2.out.mono ?_
        rintro e w6 ⟨g6, rfl, hg6, ho6, hb6⟩
        have HB6 := Lib.hid (below_up hb5' hb6 hb5'.size)
        have HS6 := Lib.hid ho6.src
        have HO6 := Lib.hid (HO5.out.keep hb6)
        have hgw : w.heap.size ≤ g4 := Nat.le_trans hb3'.size hg4
        clear ho6 HD2 HO5
        go_wp2
        go_roundw
        case rel => exact ⟨k / 2, _, _, g4, _, _, rfl, rfl, rfl, hgw, HO6.out, HS6.out, by omega, by omega, HN.out, HB6.out⟩
        case measure => simp [intOf] <;> omega
      · have LM2 : (mulL f s s).length ≤ 4096 := by have := mulL_le f s s; omega
        have HPM2 : Hid (Pol f (mulL f s s)) := Lib.hid (pol_mulL h0 h8 s s)
        have HR2 : Hid (IsRem f (lf (mulL f s s)) m (remL f (mulL f s s) m)) := Lib.hid (remL_is h0 h8 HPM2.out HPM.out hz)
        have HN : Hid (PowAt f m (lf l) E (k / 2).toNat r (remL f (mulL f s s) m)) := Lib.hid (by rw [show (k / 2).toNat = k.toNat / 2 by omega]; exact hat.even (by omega) HR2.out)
        have e2 : (k % 2 == 1) = false := by simp [h2]
        have HM2 := Lib.hid (product_c f sa sa s s cs cs wr (ht.below hb) h0 h8 (by omega) (by omega) ps ps hss hss)
        have HOR := Lib.hid hor
        clear h2 hat hor hss pr ps
        go_wp2_with fail
        refine HM2.out.mono ?_
        rintro e w5 ⟨g5, rfl, hg5, ho5, hb5⟩
        have hb5' := below_up hb hb5 hb.size
        have HD2 := Lib.hid (remainder_c f (some ⟨g5, 0, none⟩) a2 (mulL f s s) m (mulL f s s).length cap2 w5 (ht.below hb5') h0 h8 LM2 (by omega) hz HPM2.out HPM.out ho5.src (HS2.out.keep hb5'))
        have HO5 := Lib.hid (HOR.out.keep hb5)
        clear ho5 HM2 HOR
        go_wp2_with fail
        refine HD2.out.mono ?_
        rintro e w6 ⟨g6, rfl, hg6, ho6, hb6⟩
        have HB6 := Lib.hid (below_up hb5' hb6 hb5'.size)
        have HS6 := Lib.hid ho6.src
        have HO6 := Lib.hid (HO5.out.keep hb6)
        clear ho6 HD2 HO5
        go_wp2
        go_roundw
        case rel => exact ⟨k / 2, _, _, gr, _, _, rfl, rfl, rfl, hgr, HO6.out, HS6.out, by omega, by omega, HN.out, HB6.out⟩
        case measure => simp [intOf] <;> omega
    · obtain rfl : k = 0 := by omega
      have HE : Hid (powL f l E m = r) := Lib.hid (HU.out r s hat)
      have HO := Lib.hid hor
      clear hat hor hss pr ps
      go_wp2
      go_ret
      rw [HE.out]
      exact ⟨gr, rfl, hgr, HO.out, hb⟩
end Go.Proofs.YtmgggdibbhameaaDoor
namespace Go.Proofs.YtmgggdibbhameaaDoor
open Go.RowKit
theorem xs_zero (n : Nat) : (madeCells #[.int .i64 0] n).toList = xsF (fun _ => 0) n := by
  refine List.ext_getElem? fun j => ?_
  by_cases hj : j < n
  · have h := World.rowIs_made default (.int .i64 0) n 3
    obtain ⟨cur, h1, h2, h3⟩ := h
    have e : cur = madeCells #[.int .i64 0] n := by
      have h5 : ((default : World).alloc (.cells (madeCells #[.int .i64 0] n) 3)).heap[(default : World).heap.size]? = some (.cells (madeCells #[.int .i64 0] n) 3) := by unfold World.alloc; simp
      rw [h5] at h1
      injection h1 with h1
      injection h1 with h1
      exact h1.symm
    subst e
    have := h3 j hj
    rw [Array.getElem?_toList, this]
    simp [xsF, hj]
  · rw [List.getElem?_eq_none (by rw [made_len]; omega), List.getElem?_eq_none (by rw [xsF_len]; omega)]
theorem own_zeros (w : World) (n : Nat) (hn : n ≤ 1048576) : (w.alloc (.cells (madeCells #[.int .i64 0] n) 3)).ownsRow w.heap.size 3 1 (.slice (some ⟨w.heap.size, 0, none⟩) n n) n (xsF (fun _ => 0) n) := by
  rw [← xs_zero]
  exact World.ownsRow_lit w (madeCells #[.int .i64 0] n) n (Nat.le_refl _) (by unfold maxLen; omega) (by rw [size_madeCells]; omega)
theorem xs_xn (n : Nat) : xsF (fun _ => 0) n ++ [.int .i64 1] = xsF (lf (xnL n)) (n + 1) := by
  rw [xs_more]
  refine xsF_congr fun j hj => ?_
  unfold xnL
  rw [lf_tab, if_pos hj]
  by_cases e : j < n
  · rw [more_lo e, if_neg (by omega)]
  · obtain rfl : j = n := by omega
    rw [more_at, if_pos rfl]
set_option maxRecDepth 100000 in
set_option maxHeartbeats 1600000 in
theorem raised_c (f e : Int) (a : Option Addr) (l : List Int) (cap : Nat) (w : World) (ht : Tab w) (h : SerOk f l) (e0 : 0 ≤ e) (e1 : e ≤ 1000000) (hs : Src w a l.length (lf l)) :
    Calls Tryd.prog 51 #[.int .i64 f, .slice a l.length cap, .int .i64 e] w (OwnG w (elL f l.length (powS (lf l) e.toNat))) := by
  have h0 := h.1.1
  have h8 := h.1.2
  have hp := P_bd h0 h8
  have n1 := h.2.1
  have hpp := pow_pad h0 h8 h.ser n1.1 e.toNat
  have hpol : Pol f (cutL l.length (lf l)) := Pol.cut (by omega) fun j _ => h.all j
  have hcl := cutL_le l.length (lf l)
  have P1 : Hid (∀ W, Below w.heap.size w W → Calls Tryd.prog 66 #[.slice a l.length cap] W (OwnG W (cutL l.length (lf l)))) := Lib.hid fun W hb => poly_c a l.length cap (lf l) W (by omega) (hs.keep hb)
  have P2 : Hid (∀ (g : Nat) (a2 : Option Addr) (cap2 : Nat) W, Below w.heap.size w W → Own W g (cutL l.length (lf l)).length (lf (cutL l.length (lf l))) → Src W a2 (l.length + 1) (lf (xnL l.length)) → Calls Tryd.prog 65 #[.int .i64 f, .slice (some ⟨g, 0, none⟩) (cutL l.length (lf l)).length (cutL l.length (lf l)).length, .int .i64 e, .slice a2 (l.length + 1) cap2] W (OwnG W (powL f (cutL l.length (lf l)) e.toNat (xnL l.length)))) := Lib.hid fun g a2 cap2 W hb o1 s2 => by
    have := pow_c f e (some ⟨g, 0, none⟩) a2 (cutL l.length (lf l)) (xnL l.length) (cutL l.length (lf l)).length cap2 W (ht.below hb) h0 h8 (by omega) (by rw [xnL_len]; omega) (by rw [xnL_len]; omega) e0 e1 hpol (pol_xn h0 h8 _) o1.src (by rw [xnL_len]; exact s2)
    rwa [xnL_len] at this
  have P3 : Hid (∀ (g : Nat) W, Own W g (powL f (cutL l.length (lf l)) e.toNat (xnL l.length)).length (lf (powL f (cutL l.length (lf l)) e.toNat (xnL l.length))) → Calls Tryd.prog 61 #[.slice (some ⟨g, 0, none⟩) (powL f (cutL l.length (lf l)) e.toNat (xnL l.length)).length (powL f (cutL l.length (lf l)) e.toNat (xnL l.length)).length, .int .i64 l.length] W (OwnG W (elL f l.length (powS (lf l) e.toNat)))) := Lib.hid fun g W o1 => by
    have := padded_c (some ⟨g, 0, none⟩) (powL f (cutL l.length (lf l)) e.toNat (xnL l.length)) (powL f (cutL l.length (lf l)) e.toNat (xnL l.length)).length l.length W hpp.1 (by omega) o1.src
    rwa [hpp.2] at this
  obtain ⟨i0, hi, hz0, hz1, hz2⟩ := info_parts info3
  have HI := Lib.hid hi
  have HZ0 := Lib.hid hz0
  have HZ1 := Lib.hid hz1
  have HZ2 := Lib.hid hz2
  have hmk := made_n l.length (by omega)
  have hown := own_zeros w l.length (by omega)
  have HXN := Lib.hid (xs_xn l.length)
  have bm : Below w.heap.size w (w.alloc (.cells (madeCells #[.int .i64 0] l.length) 3)) := (Below.refl _ _).alloc (Nat.le_refl _) _
  clear h hs hpp hpol hcl hi hz0 hz1 hz2 ht
  generalize powL f (cutL l.length (lf l)) e.toNat (xnL l.length) = PW1 at *
  generalize cutL l.length (lf l) = CL at *
  generalize elL f l.length (powS (lf l) e.toNat) = R at *
  generalize l.length = n at *
  go_enter Tryd.func51, Tryd.ntmps51
  go_wp2_with (at_builtin; refine wpList_append_own _ rfl _ _ 22 rfl w.heap.size 3 i0 (.int .i64 0) 1 8 Tryd.underlying22 HI.out HZ0.out HZ1.out HZ2.out rfl (by decide) _ _ _ rfl (hown.alloc _) ⟨w.heap.size + 1, 0, none⟩ 1 1 [.int .i64 1] rfl rfl ?d1 ?d2 ?d3 ?d4 ?d5 ?_)
  case d1 =>
    intro j u hj
    match j, hj with
    | 0, hj => simp at hj; subst hj; simp [Addr.add]
  case d2 => intro u hu; simp at hu; subst hu; rfl
  case d3 => unfold maxLen; omega
  case d4 => omega
  case d5 => simp; omega
  intro v' w1 hown' hgrow _
  have hbel : Below w.heap.size w w1 := (bm.alloc bm.size _).grown hgrow (by simp; omega) (own_ge hown)
  rw [HXN.out] at hown'
  obtain ⟨a2, cap2, rfl, hcap2, hs2⟩ := src_of_owns2 hown'
  have HS2 := Lib.hid hs2
  clear hgrow hown hown' hmk hs2 bm
  go_wp2_with fail
  refine (P1.out w1 hbel).mono ?_
  rintro e w2 ⟨g2, rfl, hg2, o2, b2⟩
  have HO2 := Lib.hid o2
  have b3 := below_up hbel b2 hbel.size
  have HS3 := Lib.hid (HS2.out.keep b2)
  clear o2 P1 HS2 b2
  go_wp2_with fail
  refine (P2.out g2 a2 cap2 w2 b3 HO2.out HS3.out).mono ?_
  rintro e w3 ⟨g3, rfl, hg3, o3, b4⟩
  have HO3 := Lib.hid o3
  have b5 := below_up b3 b4 b3.size
  clear o3 P2 HO2 HS3 b3 b4
  go_wp2_with fail
  refine (P3.out g3 w3 HO3.out).mono ?_
  intro e w4 h4
  have HR := Lib.hid (h4.up b5)
  obtain ⟨g4, rfl, _⟩ := h4
  clear HO3 P3
  go_wp2
  go_ret
  exact HR.out
end Go.Proofs.YtmgggdibbhameaaDoor
namespace Go.Proofs.YtmgggdibbhameaaDoor
open Go.RowKit
theorem comp_on {f : Int} {l m : List Int} (h : FitOk f l m) : mFit f l m = true := by unfold mFit; simp [h]
theorem comp_off {f : Int} {l m : List Int} (h : ¬ FitOk f l m) : mFit f l m = false := by unfold mFit; simp [h]
theorem starts_on {f x : Int} {l : List Int} (h : SerOk f l) (h2 : lf l 0 = x) : mStarts f l x = true := by unfold mStarts; simp [h, h2]
theorem starts_off {f x : Int} {l : List Int} (h : ¬ (SerOk f l ∧ lf l 0 = x)) : mStarts f l x = false := by unfold mStarts; simp only [decide_eq_false_iff_not]; exact h
theorem src_head {w : World} {a : Option Addr} {l : List Int} {f : Int} (h : SerOk f l) (hs : Src w a l.length (lf l)) : ∃ b off, a = some ⟨b, off, none⟩ ∧ w.cell? ⟨b, off, none⟩ = some (.int .i64 (lf l 0)) := by
  have n1 := h.2.1
  rcases hs with hz | ⟨b, off, rfl, hlt, hc⟩
  · omega
  · exact ⟨b, off, rfl, by have := hc 0 (by omega); rwa [Nat.add_zero] at this⟩
set_option maxRecDepth 100000 in
set_option maxHeartbeats 1600000 in
theorem iSeriesMul (f : Int) (a : Option Addr) (l : List Int) (cap : Nat) (a2 : Option Addr) (m : List Int) (cap2 : Nat) (w : World) (hn : l.length ≤ 1048576) (hn2 : m.length ≤ 1048576) (hs : SrcC w a l.length cap (lf l)) (hs2 : SrcC w a2 m.length cap2 (lf m)) (ht : Tab w) : Calls Tryd.prog 16 #[.int .i64 f, .slice a l.length cap, .slice a2 m.length cap2] w (OwnL w (mSeriesMul f l m)) := by
  have R := Lib.hid (areComp_c f a l cap a2 m cap2 w hn hn2 hs.src hs2.src ht)
  by_cases h : FitOk f l m
  · rw [show mSeriesMul f l m = smulL f l m by unfold mSeriesMul; rw [if_pos h]]
    rw [comp_on h] at R
    have H : Hid (Calls Tryd.prog 39 #[.int .i64 f, .slice a l.length cap, .slice a2 m.length cap2] w (OwnG w (smulL f l m))) := Lib.hid (by
      have h64 := h.2.1.2.1
      obtain ⟨c2, s2⟩ := hs2
      rw [← h.1] at s2 c2 ⊢
      exact sprod_c f a a2 l.length cap cap2 (lf l) (lf m) w ht h.2.1.1.1 h.2.1.1.2 h64.1 (by omega) c2 h.2.1.all h.2.2.all hs.src s2)
    clear h hs hs2
    generalize smulL f l m = R1 at *
    go_enter Tryd.func16, Tryd.ntmps16
    go_wp2_with fail
    refine (R.out).mono ?_
    rintro e w' ⟨rfl, rfl⟩
    go_wp2_with fail
    refine (H.out).mono ?_
    intro e w4 h4
    have HR := Lib.hid h4.own
    obtain ⟨g4, rfl, _⟩ := h4
    go_wp2
    go_ret
    exact HR.out
  · rw [show mSeriesMul f l m = [] by unfold mSeriesMul; rw [if_neg h]]
    rw [comp_off h] at R
    clear h hs hs2
    go_enter Tryd.func16, Tryd.ntmps16
    go_wp2_with fail
    refine (R.out).mono ?_
    rintro e w' ⟨rfl, rfl⟩
    go_wp2
    go_ret
    exact ⟨none, 0, rfl, OwnA.nil rfl, Below.refl _ _⟩
set_option maxRecDepth 100000 in
set_option maxHeartbeats 1600000 in
theorem iSeriesDiff (f : Int) (a : Option Addr) (l : List Int) (cap : Nat) (w : World) (hn : l.length ≤ 1048576) (hs : SrcC w a l.length cap (lf l)) (ht : Tab w) : Calls Tryd.prog 22 #[.int .i64 f, .slice a l.length cap] w (OwnL w (mSeriesDiff f l)) := by
  have R := Lib.hid (iSeriesOk f a l cap w hn hs.src ht)
  by_cases h : SerOk f l
  · rw [show mSeriesDiff f l = sdiffL f l by unfold mSeriesDiff; rw [if_pos h]]
    rw [sok_iff.2 h] at R
    have H := Lib.hid (sderiv_c f a l cap w ht h hs.src)
    clear h hs
    generalize sdiffL f l = R1 at *
    go_enter Tryd.func22, Tryd.ntmps22
    go_wp2_with fail
    refine (R.out).mono ?_
    rintro e w' ⟨rfl, rfl⟩
    go_wp2_with fail
    refine (H.out).mono ?_
    intro e w4 h4
    have HR := Lib.hid h4.own
    obtain ⟨g4, rfl, _⟩ := h4
    go_wp2
    go_ret
    exact HR.out
  · rw [show mSeriesDiff f l = [] by unfold mSeriesDiff; rw [if_neg h]]
    rw [sok_not.2 h] at R
    clear h hs
    go_enter Tryd.func22, Tryd.ntmps22
    go_wp2_with fail
    refine (R.out).mono ?_
    rintro e w' ⟨rfl, rfl⟩
    go_wp2
    go_ret
    exact ⟨none, 0, rfl, OwnA.nil rfl, Below.refl _ _⟩
set_option maxRecDepth 100000 in
set_option maxHeartbeats 1600000 in
theorem iSeriesInv (f : Int) (a : Option Addr) (l : List Int) (cap : Nat) (w : World) (hn : l.length ≤ 1048576) (hs : SrcC w a l.length cap (lf l)) (ht : Tab w) : Calls Tryd.prog 20 #[.int .i64 f, .slice a l.length cap] w (OwnLB w (mSeriesInv0 f l) (mSeriesInv1 f l)) := by
  have R := Lib.hid (iSeriesOk f a l cap w hn hs.src ht)
  by_cases h : InvOk f l
  · rw [show mSeriesInv0 f l = invL f l by unfold mSeriesInv0; rw [if_pos h], show mSeriesInv1 f l = true by unfold mSeriesInv1; simp [h]]
    have h1 := h.1
    obtain ⟨b, off, rfl, c0⟩ := src_head h1 hs.src
    have n0 : (0 : Int) < (l.length : Int) := by have := h1.2.1; omega
    have n0' : 0 < l.length := by omega
    rw [sok_iff.2 h1] at R
    have dz : (lf l 0 == 0) = false := by rw [beq_eq_false_iff_ne]; exact h.2
    have H := Lib.hid (inverted_c f (some ⟨b, off, none⟩) l cap w ht h.1 h.2 hs.1 hs.src)
    clear h h1 hs
    generalize invL f l = R1 at *
    generalize lf l 0 = A0 at *
    go_enter Tryd.func20, Tryd.ntmps20
    go_wp2_with fail
    refine (R.out).mono ?_
    rintro e w' ⟨rfl, rfl⟩
    go_wp2_with fail
    refine (H.out).mono ?_
    intro e w4 h4
    have HO := Lib.hid h4
    obtain ⟨g4, rfl, hg4, o4, b4⟩ := h4
    have HR := Lib.hid (OwnG.finishB hg4 o4 b4)
    clear o4 HO
    go_wp2
    go_ret2
    exact HR.out
  · rw [show mSeriesInv0 f l = [] by unfold mSeriesInv0; rw [if_neg h], show mSeriesInv1 f l = false by unfold mSeriesInv1; simp [h]]
    by_cases h1 : SerOk f l
    · obtain ⟨b, off, rfl, c0⟩ := src_head h1 hs.src
      have n0 : (0 : Int) < (l.length : Int) := by have := h1.2.1; omega
      have n0' : 0 < l.length := by omega
      have hz : lf l 0 = 0 := Classical.byContradiction fun hz => h ⟨h1, hz⟩
      rw [hz] at c0
      rw [sok_iff.2 h1] at R
      clear h h1 hs hz
      go_enter Tryd.func20, Tryd.ntmps20
      go_wp2_with fail
      refine (R.out).mono ?_
      rintro e w' ⟨rfl, rfl⟩
      go_wp2
      go_ret2
      exact ⟨none, 0, rfl, OwnA.nil rfl, Below.refl _ _⟩
    · rw [sok_not.2 h1] at R
      clear h h1 hs
      go_enter Tryd.func20, Tryd.ntmps20
      go_wp2_with fail
      refine (R.out).mono ?_
      rintro e w' ⟨rfl, rfl⟩
      go_wp2
      go_ret2
      exact ⟨none, 0, rfl, OwnA.nil rfl, Below.refl _ _⟩
set_option maxRecDepth 100000 in
set_option maxHeartbeats 1600000 in
theorem iSeriesSum (f : Int) (a : Option Addr) (l : List Int) (cap : Nat) (w : World) (hn : l.length ≤ 1048576) (hs : SrcC w a l.length cap (lf l)) (ht : Tab w) : Calls Tryd.prog 24 #[.int .i64 f, .slice a l.length cap] w (OwnLB w (mSeriesSum0 f l) (mSeriesSum1 f l)) := by
  have R := Lib.hid (iSeriesOk f a l cap w hn hs.src ht)
  by_cases h : ShortOk f l
  · rw [show mSeriesSum0 f l = ssumL f l by unfold mSeriesSum0; rw [if_pos h], show mSeriesSum1 f l = true by unfold mSeriesSum1; simp [h]]
    have h1 := h.1
    have RI := Lib.hid (hasInt_c f a l.length cap w h1.1.1 h1.1.2 ht)
    rw [sok_iff.2 h1] at R
    rw [decide_eq_true h.2] at RI
    have H : Hid (Calls Tryd.prog 46 #[.int .i64 f, .slice a l.length cap] w (OwnG w (ssumL f l))) := Lib.hid (integral_c f a l.length cap (lf l) w ht h1.1.1 h1.1.2 h1.2.1.1 (by have := h1.2.1; omega) h.2 h1.all hs.src)
    clear h h1 hs
    generalize ssumL f l = R1 at *
    go_enter Tryd.func24, Tryd.ntmps24
    go_wp2_with fail
    refine (R.out).mono ?_
    rintro e w' ⟨rfl, rfl⟩
    go_wp2_with fail
    refine (RI.out).mono ?_
    rintro e w' ⟨rfl, rfl⟩
    go_wp2_with fail
    refine (H.out).mono ?_
    intro e w4 h4
    have HO := Lib.hid h4
    obtain ⟨g4, rfl, hg4, o4, b4⟩ := h4
    have HR := Lib.hid (OwnG.finishB hg4 o4 b4)
    clear o4 HO
    go_wp2
    go_ret2
    exact HR.out
  · rw [show mSeriesSum0 f l = [] by unfold mSeriesSum0; rw [if_neg h], show mSeriesSum1 f l = false by unfold mSeriesSum1; simp [h]]
    by_cases h1 : SerOk f l
    · have RI := Lib.hid (hasInt_c f a l.length cap w h1.1.1 h1.1.2 ht)
      rw [decide_eq_false fun hq => h ⟨h1, hq⟩] at RI
      rw [sok_iff.2 h1] at R
      clear h h1 hs
      go_enter Tryd.func24, Tryd.ntmps24
      go_wp2_with fail
      refine (R.out).mono ?_
      rintro e w' ⟨rfl, rfl⟩
      go_wp2_with fail
      refine (RI.out).mono ?_
      rintro e w' ⟨rfl, rfl⟩
      go_wp2
      go_ret2
      exact ⟨none, 0, rfl, OwnA.nil rfl, Below.refl _ _⟩
    · rw [sok_not.2 h1] at R
      clear h h1 hs
      go_enter Tryd.func24, Tryd.ntmps24
      go_wp2_with fail
      refine (R.out).mono ?_
      rintro e w' ⟨rfl, rfl⟩
      go_wp2
      go_ret2
      exact ⟨none, 0, rfl, OwnA.nil rfl, Below.refl _ _⟩
set_option maxRecDepth 100000 in
set_option maxHeartbeats 1600000 in
theorem iSeriesLog (f : Int) (a : Option Addr) (l : List Int) (cap : Nat) (w : World) (hn : l.length ≤ 1048576) (hs : SrcC w a l.length cap (lf l)) (ht : Tab w) : Calls Tryd.prog 26 #[.int .i64 f, .slice a l.length cap] w (OwnLB w (mSeriesLog0 f l) (mSeriesLog1 f l)) := by
  have R := Lib.hid (starts_c f a l cap 1 w hn hs.src ht)
  by_cases h : LogOk f l
  · rw [show mSeriesLog0 f l = logL f l by unfold mSeriesLog0; rw [if_pos h], show mSeriesLog1 f l = true by unfold mSeriesLog1; simp [h]]
    have h1 := h.1.1
    have RI := Lib.hid (hasInt_c f a l.length cap w h1.1.1 h1.1.2 ht)
    rw [starts_on h1 h.2] at R
    rw [decide_eq_true h.1.2] at RI
    have H := Lib.hid (logarithm_c f a l cap w ht h hs.1 hs.src)
    clear h h1 hs
    generalize logL f l = R1 at *
    go_enter Tryd.func26, Tryd.ntmps26
    go_wp2_with fail
    refine (R.out).mono ?_
    rintro e w' ⟨rfl, rfl⟩
    go_wp2_with fail
    refine (RI.out).mono ?_
    rintro e w' ⟨rfl, rfl⟩
    go_wp2_with fail
    refine (H.out).mono ?_
    intro e w4 h4
    have HO := Lib.hid h4
    obtain ⟨g4, rfl, hg4, o4, b4⟩ := h4
    have HR := Lib.hid (OwnG.finishB hg4 o4 b4)
    clear o4 HO
    go_wp2
    go_ret2
    exact HR.out
  · rw [show mSeriesLog0 f l = [] by unfold mSeriesLog0; rw [if_neg h], show mSeriesLog1 f l = false by unfold mSeriesLog1; simp [h]]
    by_cases h2 : SerOk f l ∧ lf l 0 = 1
    · have h1 := h2.1
      have RI := Lib.hid (hasInt_c f a l.length cap w h1.1.1 h1.1.2 ht)
      rw [decide_eq_false fun hq => h ⟨⟨h1, hq⟩, h2.2⟩] at RI
      rw [starts_on h1 h2.2] at R
      clear h h1 h2 hs
      go_enter Tryd.func26, Tryd.ntmps26
      go_wp2_with fail
      refine (R.out).mono ?_
      rintro e w' ⟨rfl, rfl⟩
      go_wp2_with fail
      refine (RI.out).mono ?_
      rintro e w' ⟨rfl, rfl⟩
      go_wp2
      go_ret2
      exact ⟨none, 0, rfl, OwnA.nil rfl, Below.refl _ _⟩
    · rw [starts_off h2] at R
      clear h h2 hs
      go_enter Tryd.func26, Tryd.ntmps26
      go_wp2_with fail
      refine (R.out).mono ?_
      rintro e w' ⟨rfl, rfl⟩
      go_wp2
      go_ret2
      exact ⟨none, 0, rfl, OwnA.nil rfl, Below.refl _ _⟩
set_option maxRecDepth 100000 in
set_option maxHeartbeats 1600000 in
theorem iSeriesExp (f : Int) (a : Option Addr) (l : List Int) (cap : Nat) (w : World) (hn : l.length ≤ 1048576) (hs : SrcC w a l.length cap (lf l)) (ht : Tab w) : Calls Tryd.prog 28 #[.int .i64 f, .slice a l.length cap] w (OwnLB w (mSeriesExp0 f l) (mSeriesExp1 f l)) := by
  have R := Lib.hid (starts_c f a l cap 0 w hn hs.src ht)
  by_cases h : ExpOk f l
  · rw [show mSeriesExp0 f l = expL f l by unfold mSeriesExp0; rw [if_pos h], show mSeriesExp1 f l = true by unfold mSeriesExp1; simp [h]]
    have h1 := h.1.1
    have RI := Lib.hid (hasInt_c f a l.length cap w h1.1.1 h1.1.2 ht)
    rw [starts_on h1 h.2] at R
    rw [decide_eq_true h.1.2] at RI
    have H := Lib.hid (exponential_c f a l cap w ht h hs.1 hs.src)
    clear h h1 hs
    generalize expL f l = R1 at *
    go_enter Tryd.func28, Tryd.ntmps28
    go_wp2_with fail
    refine (R.out).mono ?_
    rintro e w' ⟨rfl, rfl⟩
    go_wp2_with fail
    refine (RI.out).mono ?_
    rintro e w' ⟨rfl, rfl⟩
    go_wp2_with fail
    refine (H.out).mono ?_
    intro e w4 h4
    have HO := Lib.hid h4
    obtain ⟨g4, rfl, hg4, o4, b4⟩ := h4
    have HR := Lib.hid (OwnG.finishB hg4 o4 b4)
    clear o4 HO
    go_wp2
    go_ret2
    exact HR.out
  · rw [show mSeriesExp0 f l = [] by unfold mSeriesExp0; rw [if_neg h], show mSeriesExp1 f l = false by unfold mSeriesExp1; simp [h]]
    by_cases h2 : SerOk f l ∧ lf l 0 = 0
    · have h1 := h2.1
      have RI := Lib.hid (hasInt_c f a l.length cap w h1.1.1 h1.1.2 ht)
      rw [decide_eq_false fun hq => h ⟨⟨h1, hq⟩, h2.2⟩] at RI
      rw [starts_on h1 h2.2] at R
      clear h h1 h2 hs
      go_enter Tryd.func28, Tryd.ntmps28
      go_wp2_with fail
      refine (R.out).mono ?_
      rintro e w' ⟨rfl, rfl⟩
      go_wp2_with fail
      refine (RI.out).mono ?_
      rintro e w' ⟨rfl, rfl⟩
      go_wp2
      go_ret2
      exact ⟨none, 0, rfl, OwnA.nil rfl, Below.refl _ _⟩
    · rw [starts_off h2] at R
      clear h h2 hs
      go_enter Tryd.func28, Tryd.ntmps28
      go_wp2_with fail
      refine (R.out).mono ?_
      rintro e w' ⟨rfl, rfl⟩
      go_wp2
      go_ret2
      exact ⟨none, 0, rfl, OwnA.nil rfl, Below.refl _ _⟩
set_option maxRecDepth 100000 in
set_option maxHeartbeats 1600000 in
theorem iSeriesPow (f : Int) (a : Option Addr) (l : List Int) (cap : Nat) (e : Int) (w : World) (hn : l.length ≤ 1048576) (hs : SrcC w a l.length cap (lf l)) (ht : Tab w) : Calls Tryd.prog 30 #[.int .i64 f, .slice a l.length cap, .int .i64 e] w (OwnLB w (mSeriesPow0 f l e) (mSeriesPow1 f l e)) := by
  have R := Lib.hid (iSeriesOk f a l cap w hn hs.src ht)
  by_cases h : SPowOk f l e
  · rw [show mSeriesPow0 f l e = spowL f l e by unfold mSeriesPow0; rw [if_pos h], show mSeriesPow1 f l e = true by unfold mSeriesPow1; simp [h]]
    have h1 := h.1
    have h2 := h.2.1
    rw [sok_iff.2 h1] at R
    have d1 : decide (e < -1000000) = false := decide_eq_false (by omega)
    have d2 : decide ((1000000 : Int) < e) = false := decide_eq_false (by omega)
    by_cases h3 : 0 ≤ e
    · have d3 : decide (0 ≤ e) = true := decide_eq_true h3
      have H : Hid (Calls Tryd.prog 51 #[.int .i64 f, .slice a l.length cap, .int .i64 e] w (OwnG w (spowL f l e))) := Lib.hid (by
        have := raised_c f e a l cap w ht h1 h3 h2.2 hs.src
        have e1 : spowL f l e = elL f l.length (powS (lf l) e.toNat) := by
          unfold spowL zpS
          rw [if_pos h3]
        rw [e1]
        exact this)
      clear h h1 hs
      generalize spowL f l e = R1 at *
      go_enter Tryd.func30, Tryd.ntmps30
      go_wp2_with fail
      refine (R.out).mono ?_
      rintro e w' ⟨rfl, rfl⟩
      go_wp2_with fail
      refine (H.out).mono ?_
      intro e w4 h4
      have HO := Lib.hid h4
      obtain ⟨g4, rfl, hg4, o4, b4⟩ := h4
      have HR := Lib.hid (OwnG.finishB hg4 o4 b4)
      clear o4 HO
      go_wp2
      go_ret2
      exact HR.out
    · have hz := h.2.2 (by omega)
      have d3 : decide (0 ≤ e) = false := decide_eq_false h3
      have d4 : (lf l 0 == 0) = false := by rw [beq_eq_false_iff_ne]; exact hz
      have hq := invL_is h1 hz
      have hV := hq.1.ok h1.1 h1.2.1.1 h1.2.1.2
      have H1 := Lib.hid (inverted_c f a l cap w ht h1 hz hs.1 hs.src)
      have H2 : Hid (∀ (g : Nat) W, Below w.heap.size w W → Own W g (invL f l).length (lf (invL f l)) → Calls Tryd.prog 51 #[.int .i64 f, .slice (some ⟨g, 0, none⟩) (invL f l).length (invL f l).length, .int .i64 (-e)] W (OwnG W (spowL f l e))) := Lib.hid fun g W hb o1 => by
        have := raised_c f (-e) (some ⟨g, 0, none⟩) (invL f l) (invL f l).length W (ht.below hb) hV (by omega) (by omega) o1.src
        have e1 : spowL f l e = elL f (invL f l).length (powS (lf (invL f l)) (-e).toNat) := by
          unfold spowL zpS
          rw [if_neg h3, hq.1.1]
        rw [e1]
        exact this
      have q1 : IntKind.i64.wrap (-e) = -e := IntWalk.i64_in _ (by omega)
      obtain ⟨b, off, rfl, c0⟩ := src_head h1 hs.src
      have n0 : (0 : Int) < (l.length : Int) := by have := h1.2.1; omega
      have n0' : 0 < l.length := by omega
      clear h h1 hs hz hq hV
      generalize invL f l = V at *
      generalize spowL f l e = R1 at *
      generalize lf l 0 = A0 at *
      go_enter Tryd.func30, Tryd.ntmps30
      go_wp2_with fail
      refine (R.out).mono ?_
      rintro e w' ⟨rfl, rfl⟩
      go_wp2_with fail
      refine (H1.out).mono ?_
      rintro e w1 ⟨g1, rfl, hg1, o1, b1⟩
      have HO1 := Lib.hid o1
      clear o1 H1 c0
      go_wp2_with fail
      refine (H2.out g1 w1 b1 HO1.out).mono ?_
      intro e w4 h4
      have h5 := h4.up b1
      obtain ⟨g4, rfl, _⟩ := h4
      have HR := Lib.hid (show OwnLB w R1 true _ w4 from (by
        obtain ⟨g5, hg5, hl5, o5, b5⟩ := h5
        cases hg5
        exact OwnG.finishB hl5 o5 b5))
      clear h5 HO1 H2
      go_wp2
      go_ret2
      exact HR.out
  · rw [show mSeriesPow0 f l e = [] by unfold mSeriesPow0; rw [if_neg h], show mSeriesPow1 f l e = false by unfold mSeriesPow1; simp [h]]
    by_cases h1 : SerOk f l
    · rw [sok_iff.2 h1] at R
      by_cases h2 : -1000000 ≤ e ∧ e ≤ 1000000
      · have h3 : e < 0 := Classical.byContradiction fun hq => h ⟨h1, h2, fun hx => absurd hx hq⟩
        have hz : lf l 0 = 0 := Classical.byContradiction fun hq => h ⟨h1, h2, fun _ => hq⟩
        have d1 : decide (e < -1000000) = false := decide_eq_false (by omega)
        have d2 : decide ((1000000 : Int) < e) = false := decide_eq_false (by omega)
        have d3 : decide (0 ≤ e) = false := decide_eq_false (by omega)
        obtain ⟨b, off, rfl, c0⟩ := src_head h1 hs.src
        have n0 : (0 : Int) < (l.length : Int) := by have := h1.2.1; omega
        have n0' : 0 < l.length := by omega
        rw [hz] at c0
        clear h h1 hs hz
        go_enter Tryd.func30, Tryd.ntmps30
        go_wp2_with fail
        refine (R.out).mono ?_
        rintro e w' ⟨rfl, rfl⟩
        go_wp2
        go_ret2
        exact ⟨none, 0, rfl, OwnA.nil rfl, Below.refl _ _⟩
      · by_cases h3 : e < -1000000
        · have d1 : decide (e < -1000000) = true := decide_eq_true h3
          clear h h1 hs h2
          go_enter Tryd.func30, Tryd.ntmps30
          go_wp2_with fail
          refine (R.out).mono ?_
          rintro e w' ⟨rfl, rfl⟩
          go_wp2
          go_ret2
          exact ⟨none, 0, rfl, OwnA.nil rfl, Below.refl _ _⟩
        · have d1 : decide (e < -1000000) = false := decide_eq_false h3
          have d2 : decide ((1000000 : Int) < e) = true := decide_eq_true (by omega)
          clear h h1 hs h2
          go_enter Tryd.func30, Tryd.ntmps30
          go_wp2_with fail
          refine (R.out).mono ?_
          rintro e w' ⟨rfl, rfl⟩
          go_wp2
          go_ret2
          exact ⟨none, 0, rfl, OwnA.nil rfl, Below.refl _ _⟩
    · rw [sok_not.2 h1] at R
      clear h h1 hs
      go_enter Tryd.func30, Tryd.ntmps30
      go_wp2_with fail
      refine (R.out).mono ?_
      rintro e w' ⟨rfl, rfl⟩
      go_wp2
      go_ret2
      exact ⟨none, 0, rfl, OwnA.nil rfl, Below.refl _ _⟩
end Go.Proofs.YtmgggdibbhameaaDoor
namespace Go.Proofs.YtmgggdibbhameaaDoor
open Go.RowKit
theorem theL_len {Q : List Int → Prop} {n : Nat} (h : ∀ l, Q l → l.length ≤ n) : (theL Q).length ≤ n := by
  unfold theL
  split
  · rename_i hex
    exact h _ (Classical.choose_spec hex)
  · exact Nat.zero_le _
theorem len_mSeriesMul (f : Int) (l m : List Int) (n : l.length ≤ 1048576) (_n2 : m.length ≤ 1048576) : (mSeriesMul f l m).length ≤ 1048576 := by
  unfold mSeriesMul
  split
  · unfold smulL; rw [elL_len]; exact n
  · simp
theorem len_mSeriesInv0 (f : Int) (l : List Int) (n : l.length ≤ 1048576) : (mSeriesInv0 f l).length ≤ 1048576 := by
  unfold mSeriesInv0
  split
  · exact theL_len fun x hx => by rw [hx.1.1]; exact n
  · simp
theorem len_mSeriesDiff (f : Int) (l : List Int) (n : l.length ≤ 1048576) : (mSeriesDiff f l).length ≤ 1048576 := by
  unfold mSeriesDiff
  split
  · unfold sdiffL; rw [elL_len]; exact n
  · simp
theorem len_mSeriesSum0 (f : Int) (l : List Int) (n : l.length ≤ 1048576) : (mSeriesSum0 f l).length ≤ 1048576 := by
  unfold mSeriesSum0
  split
  · unfold ssumL; rw [elL_len]; exact n
  · simp
theorem len_mSeriesLog0 (f : Int) (l : List Int) (n : l.length ≤ 1048576) : (mSeriesLog0 f l).length ≤ 1048576 := by
  unfold mSeriesLog0
  split
  · exact theL_len fun x hx => by rw [hx.1.1]; exact n
  · simp
theorem len_mSeriesExp0 (f : Int) (l : List Int) (n : l.length ≤ 1048576) : (mSeriesExp0 f l).length ≤ 1048576 := by
  unfold mSeriesExp0
  split
  · exact theL_len fun x hx => by rw [hx.1.1]; exact n
  · simp
theorem len_mSeriesPow0 (f : Int) (l : List Int) (e : Int) (n : l.length ≤ 1048576) : (mSeriesPow0 f l e).length ≤ 1048576 := by
  unfold mSeriesPow0
  split
  · unfold spowL; rw [elL_len]; exact n
  · simp
theorem sSeriesOkB (f : Int) (a : Option Addr) (l : List Int) (cap : Nat) (w : World) (hn : l.length ≤ 1048576) (hs : Src w a l.length (lf l)) : Calls Tryd.prog 11 #[.int .i64 f, .slice a l.length cap] w (BoolP w (mSeriesOk f l)) :=
  (sSeriesOk f a l cap w hn hs).mono fun _ _ h => by
    obtain ⟨rfl, rfl⟩ := h
    exact ⟨rfl, Below.refl _ _⟩
end Go.Proofs.YtmgggdibbhameaaDoor
