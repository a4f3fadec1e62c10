/-
  Division of polynomials, the specification's; the program's division and remainder as contracts.
-/
import Derived.Test.YtcenglbcibkniaaDoorWalkYI2
import Derived.Test.YtcenglbcibkniaaDoorWalkYE
namespace Go.Proofs.YtcenglbcibkniaaDoor
open Go.RowKit
theorem divide_c (f : Int) (a a2 : Option Addr) (l m : List Int) (cap cap2 : Nat) (w : World) (ht : Tab w) (h0 : 0 ≤ f) (h8 : f ≤ 8) (hn : l.length ≤ 4096) (hn2 : m.length ≤ 4096) (hz : m.length ≠ 0) (hl : Pol f l) (hm : Pol f m) (hs : Src w a l.length (lf l)) (hs2 : Src w a2 m.length (lf m)) :
    Calls Tryd.prog 32 #[.int .i64 f, .slice a l.length cap, .slice a2 m.length cap2] w (DivR f l m w) := by
  obtain ⟨k, hk⟩ : ∃ k, m.length = k + 1 := ⟨m.length - 1, by omega⟩
  rcases hs2 with h | ⟨b2, off2, rfl, hlt2, hc2⟩
  · exact absurd h hz
  · have hk2 : k + 1 ≤ 4096 := by omega
    rw [hk] at hc2
    have e : #[Value.int .i64 f, .slice a l.length cap, .slice (some ⟨b2, off2, none⟩) m.length cap2] = #[Value.int .i64 f, .slice a l.length cap, .slice (some ⟨b2, off2, none⟩) (k + 1) cap2] := by rw [hk]
    rw [e]
    rcases Nat.lt_trichotomy l.length k with h | h | h
    · exact divide_lt f a b2 off2 k l m cap cap2 w ht h0 h8 hn hk hk2 h hl hm hs hlt2 hc2
    · exact divide_eq f a b2 off2 k l m cap cap2 w ht h0 h8 hn hk hk2 (by omega) (by omega) hl hm hs hlt2 hc2
    · exact divide_ge f a b2 off2 k l m cap cap2 w ht h0 h8 hn hk hk2 (l.length - k) (by omega) (by omega) hl hm hs hlt2 hc2
set_option maxRecDepth 100000 in
theorem remainder_c (f : Int) (a a2 : Option Addr) (l m : List Int) (cap cap2 : Nat) (w : World) (ht : Tab w) (h0 : 0 ≤ f) (h8 : f ≤ 8) (hn : l.length ≤ 4096) (hn2 : m.length ≤ 4096) (hz : m.length ≠ 0) (hl : Pol f l) (hm : Pol f m) (hs : Src w a l.length (lf l)) (hs2 : Src w a2 m.length (lf m)) :
    Calls Tryd.prog 64 #[.int .i64 f, .slice a l.length cap, .slice a2 m.length cap2] w (OwnG w (remL f l m)) := by
  have HD := Lib.hid (divide_c f a a2 l m cap cap2 w ht h0 h8 hn hn2 hz hl hm hs hs2)
  have HU : Hid (∀ q r, DivP f l m q r → remL f l m = r) := Lib.hid fun q r h => remL_eq h0 h8 hm h.isRem
  clear hs hs2
  go_enter Tryd.func64, Tryd.ntmps64
  go_wp2_with fail
  refine HD.out.mono ?_
  rintro e w2 ⟨gq, gr, q, r, rfl, hdiv, h1, h2, h3, h4, hb⟩
  have HE := Lib.hid (HU.out q r hdiv)
  have HO := Lib.hid h4
  clear h3 h4 hdiv HU
  go_wp2
  go_ret
  exact ⟨gr, by rw [HE.out]; rfl, by omega, by rw [HE.out]; exact HO.out, hb⟩
/-- A row with room: the first n cells are known. -/
def OwnV (w : World) (g n cap : Nat) (F : Nat → Int) : Prop := ∃ V, w.rowIs g 3 cap V ∧ n ≤ cap ∧ ∀ j, j < n → V j = .int .i64 (F j)
theorem OwnV.cell {w : World} {g n cap : Nat} {F : Nat → Int} (h : OwnV w g n cap F) {j : Nat} (hj : j < n) : w.cell? ⟨g, j, none⟩ = some (.int .i64 (F j)) := by
  obtain ⟨V, h1, h2, h3⟩ := h
  rw [← h3 j hj]
  exact World.rowIs.cell h1 (by omega)
theorem OwnV.frozen {w : World} {g n cap : Nat} {F : Nat → Int} (h : OwnV w g n cap F) (j : Nat) : w.frozen? ⟨g, j, none⟩ = false := by
  obtain ⟨V, h1, h2, h3⟩ := h
  exact World.rowIs.frozen h1 j
theorem OwnV.lt {w : World} {g n cap : Nat} {F : Nat → Int} (h : OwnV w g n cap F) : g < w.heap.size := by
  obtain ⟨V, h1, _⟩ := h
  exact World.rowIs.lt h1
theorem OwnV.set {w : World} {g n cap s : Nat} {F : Nat → Int} {x : Int} (h : OwnV w g n cap F) : OwnV (w.setCell ⟨g, s, none⟩ (.int .i64 x)) g n cap (upd F s x) := by
  obtain ⟨V, h1, h2, h3⟩ := h
  refine ⟨_, World.rowIs.set h1 s (.int .i64 x), h2, fun j hj => ?_⟩
  unfold upd
  by_cases e : j = s
  · simp [e]
  · simp [e, h3 j hj]
theorem OwnV.other {w : World} {g g2 n cap s : Nat} {F : Nat → Int} {v : Value} (h : OwnV w g n cap F) (hne : g ≠ g2) : OwnV (w.setCell ⟨g2, s, none⟩ v) g n cap F := by
  obtain ⟨V, h1, h2, h3⟩ := h
  exact ⟨V, World.rowIs.setOther h1 (a := ⟨g2, s, none⟩) hne v, h2, h3⟩
theorem OwnV.keep {w w' : World} {g n cap : Nat} {F : Nat → Int} (h : OwnV w g n cap F) (hb : Below w.heap.size w w') : OwnV w' g n cap F := by
  obtain ⟨V, h1, h2, h3⟩ := h
  exact ⟨V, World.rowIs.of_block h1 (hb.block g (World.rowIs.lt h1)), h2, h3⟩
theorem OwnV.congr {w : World} {g n cap : Nat} {F G : Nat → Int} (h : OwnV w g n cap F) (e : ∀ j, j < n → F j = G j) : OwnV w g n cap G := by
  obtain ⟨V, h1, h2, h3⟩ := h
  exact ⟨V, h1, h2, fun j hj => by rw [h3 j hj, e j hj]⟩
theorem OwnV.src {w : World} {g n cap : Nat} {F : Nat → Int} (h : OwnV w g n cap F) : Src w (some ⟨g, 0, none⟩) n F :=
  .inr ⟨g, 0, rfl, h.lt, fun j hj => by rw [Nat.zero_add]; exact h.cell hj⟩
theorem OwnV.of_owns {w : World} {base n : Nat} {v : Value} {F : Nat → Int} (h : w.ownsRow base 3 1 v n (xsF F n)) (hn : n ≠ 0) : ∃ g cap, v = .slice (some ⟨g, 0, none⟩) n cap ∧ base ≤ g ∧ OwnV w g n cap F := by
  obtain ⟨hl, h⟩ := h
  rcases h with ⟨h1, h2⟩ | ⟨g, cap, cur, h1, hg, hh, hc, hm, hs, ht⟩
  · exact absurd h2 hn
  · refine ⟨g, cap, h1, hg, fun j => (cur[j]?).getD .nilIface, ⟨cur, hh, by omega, fun j hj => ?_⟩, hc, fun j hj => ?_⟩
    · have : j < cur.size := by omega
      simp [this]
    · have hx : (xsF F n)[j]? = some (.int .i64 (F j)) := by simp [xsF, hj]
      rw [← ht, List.getElem?_take_of_lt (by omega)] at hx
      have : cur[j]? = some (.int .i64 (F j)) := by simpa using hx
      show (cur[j]?).getD .nilIface = _
      rw [this]; rfl
def DivS (f : Int) (l m : List Int) (w : World) (e : Ending) (w' : World) : Prop := ∃ aq capq ar capr q r, e = .returned (.tuple #[.slice aq (List.length q) capq, .slice ar (List.length r) capr]) ∧ DivP f l m q r ∧ Src w' aq (List.length q) (lf q) ∧ Src w' ar (List.length r) (lf r) ∧ Below w.heap.size w w'
set_option maxRecDepth 100000 in
set_option maxHeartbeats 3200000 in
theorem ldiv_lt (f : Int) (a : Option Addr) (b2 off2 k : Nat) (l m : List Int) (cap cap2 : Nat) (w : World) (h0 : 0 ≤ f) (h8 : f ≤ 8) (hn : l.length ≤ 4096) (hk : m.length = k + 1) (hk2 : k + 1 ≤ 4096) (hlt : l.length < k + 1) (hl : Pol f l) (hm : Pol f m) (hs : Src w a l.length (lf l)) (hlt2 : b2 < w.heap.size) (hc2 : ∀ j, j < k + 1 → w.cell? ⟨b2, off2 + j, none⟩ = some (.int .i64 (lf m j))) :
    Calls Tryd.prog 38 #[.int .i64 f, .slice a l.length cap, .slice (some ⟨b2, off2, none⟩) (k + 1) cap2] w (DivS f l m w) := by
  have hp := P_bd h0 h8
  have HCP := Lib.hid (copy_c a l.length cap (lf l) w (by omega) hs)
  have bm := hm.1 k
  have HC2 := Lib.hid hc2
  have HB := Lib.hid hm.1
  have bmz : lf m k ≠ 0 := by
    rcases hm.2 with h | h
    · omega
    · rw [hk] at h; exact h
  have bz : RS (lf m k) (P f) ≠ 0 := by rw [RS_self bm.1 bm.2]; exact bmz
  have BI := inv_one h0 h8 bz
  have HINV : Hid ((lf m k * mPower f (lf m k) (-1)) % P f = 1 % P f) := Lib.hid (by
    have := BI.1
    rw [RS_self bm.1 bm.2, Int.mul_comm] at this
    rw [show (1 : Int) % P f = 1 from Int.emod_eq_of_lt (by omega) (by omega)]
    exact this)
  have HST : Hid (DivAt f (lf l) m l.length (fun _ => 0) (lf l)) := Lib.hid (DivAt.start hl (P_pos h0 h8))
  clear hs hc2 bz bmz
  obtain ⟨i0, hi, hz0, hz1, hz2⟩ := info_parts info3
  have HI := Lib.hid hi
  have HZ0 := Lib.hid hz0
  have HZ1 := Lib.hid hz1
  have HZ2 := Lib.hid hz2
  clear hi hz0 hz1 hz2
  go_enter Tryd.func38, Tryd.ntmps38
  go_wp2_with fail
  refine HCP.out.mono ?_
  rintro e w1 ⟨vr, rfl, hown1, hb1⟩
  obtain ⟨a3, cap3, rfl, hcap3, hs3⟩ := src_of_owns2 hown1
  have HS3 := Lib.hid hs3
  clear hown1 hs3 HCP
  go_wp2_with fail
  go_loopw [9, 10] (fun v i wr => ∃ i2 : Nat, i = .int .i64 i2 ∧ i2 ≤ l.length ∧ wr.ownsRow w1.heap.size 3 1 v i2 (xsF (fun _ => 0) i2) ∧ Below w1.heap.size w1 wr) (fun _ i _ => l.length - (intOf i).toNat)
  case atStart => exact ⟨0, rfl, Nat.zero_le _, own_empty w1 _, (Below.refl _ _).alloc (Nat.le_refl _) _⟩
  case round =>
    obtain ⟨i, rfl, hil, hown, hnx⟩ := hrel
    by_cases h1 : i < l.length
    · have hd1 : decide ((i : Int) < l.length) = true := decide_eq_true (by omega)
      have hs := hnx.size
      go_wp2_with (at_builtin; refine wpList_append_own _ rfl _ _ 24 rfl w1.heap.size 3 i0 (.int .i64 0) 1 8 Tryd.underlying24 HI.out HZ0.out HZ1.out HZ2.out rfl (by decide) _ _ _ rfl (hown.alloc _) ⟨wr.heap.size, 0, none⟩ 1 1 [.int .i64 0] rfl rfl ?c1 ?c2 ?c3 ?c4 ?c5 ?_)
      case c1 => exact cell_one_new _ _ _
      case c2 => intro u hu; simp at hu; subst hu; rfl
      case c3 => unfold maxLen; omega
      case c4 => omega
      case c5 => simp; omega
      intro v' w2 hown' hgrow _
      have hbel : Below w1.heap.size w1 w2 := (hnx.alloc hs _).grown hgrow (by simp; omega) (own_ge hown)
      rw [xsF_succ (fun _ => 0)] at hown'
      clear hgrow hown
      go_wp2
      go_roundw
      case rel => exact ⟨i + 1, by go_num, by omega, hown', hbel⟩
      case measure => simp [intOf]; omega
    · have hd1 : decide ((i : Int) < l.length) = false := decide_eq_false (by omega)
      obtain rfl : i = l.length := by omega
      have hbw := below_up hb1 hnx hb1.size
      have c2 : wr.cell? ⟨b2, off2 + k, none⟩ = some (.int .i64 (lf m k)) := (hbw.cell (p := ⟨b2, off2 + k, none⟩) hlt2).trans (HC2.out k (by omega))
      have HCQ := Lib.hid (cut_own (by omega) hown)
      have HSR := Lib.hid (HS3.out.keep hnx)
      have hdk : decide ((k : Int) + 1 ≤ (l.length : Int)) = false := decide_eq_false (by omega)
      have HF : Hid (DivP f l m (cutL l.length (fun _ => 0)) (cutL l.length (lf l))) := Lib.hid (HST.out.divP (by omega) (by omega) (Nat.le_refl _) (fun _ _ => rfl))
      clear hown HS3 HST
      go_wp2_with fail
      refine (sInverse f (lf m k) wr).mono ?_
      rintro e w' ⟨rfl, rfl⟩
      go_wp2_with fail
      refine wp_loop_rounds 1 ?_
      rw [rounds_succ]
      go_wp2_with fail
      refine HCQ.out.mono ?_
      rintro e w4 hoq
      obtain ⟨aq, capq, rfl, hsq, hb4⟩ := hoq.list
      have HSQ := Lib.hid hsq
      have HCR := Lib.hid (cut_c a3 l.length cap3 (lf l) w4 (by omega) hcap3 (HSR.out.keep hb4))
      clear hoq hsq HCQ
      go_wp2_with fail
      refine HCR.out.mono ?_
      rintro e w5 hor
      obtain ⟨ar, capr, rfl, hsr, hb5⟩ := hor.list
      have HRES : Hid (Src w5 aq (cutL l.length (fun _ => 0)).length (lf (cutL l.length (fun _ => 0))) ∧ Src w5 ar (cutL l.length (lf l)).length (lf (cutL l.length (lf l))) ∧ Below w.heap.size w w5) := Lib.hid ⟨HSQ.out.keep hb5, hsr, below_up (below_up hbw hb4 hbw.size) hb5 (Nat.le_trans hbw.size hb4.size)⟩
      clear hor hsr HCR HSQ
      go_wp2
      go_ret2
      exact ⟨aq, capq, ar, capr, _, _, rfl, HF.out, HRES.out⟩
set_option maxRecDepth 100000 in
set_option maxHeartbeats 6400000 in
theorem ldiv_ge (f : Int) (a : Option Addr) (b2 off2 k : Nat) (l m : List Int) (cap cap2 : Nat) (w : World) (h0 : 0 ≤ f) (h8 : f ≤ 8) (hn : l.length ≤ 4096) (hk : m.length = k + 1) (hk2 : k + 1 ≤ 4096) (hle : k + 1 ≤ l.length) (hl : Pol f l) (hm : Pol f m) (hs : Src w a l.length (lf l)) (hlt2 : b2 < w.heap.size) (hc2 : ∀ j, j < k + 1 → w.cell? ⟨b2, off2 + j, none⟩ = some (.int .i64 (lf m j))) :
    Calls Tryd.prog 38 #[.int .i64 f, .slice a l.length cap, .slice (some ⟨b2, off2, none⟩) (k + 1) cap2] w (DivS f l m w) := by
  have hp := P_bd h0 h8
  have HCP := Lib.hid (copy_c a l.length cap (lf l) w (by omega) hs)
  have bm := hm.1 k
  have HC2 := Lib.hid hc2
  have HB := Lib.hid hm.1
  have bmz : lf m k ≠ 0 := by
    rcases hm.2 with h | h
    · omega
    · rw [hk] at h; exact h
  have bz : RS (lf m k) (P f) ≠ 0 := by rw [RS_self bm.1 bm.2]; exact bmz
  have BI := inv_one h0 h8 bz
  have HINV : Hid ((lf m k * mPower f (lf m k) (-1)) % P f = 1 % P f) := Lib.hid (by
    have := BI.1
    rw [RS_self bm.1 bm.2, Int.mul_comm] at this
    rw [show (1 : Int) % P f = 1 from Int.emod_eq_of_lt (by omega) (by omega)]
    exact this)
  have HST : Hid (DivAt f (lf l) m l.length (fun _ => 0) (lf l)) := Lib.hid (DivAt.start hl (P_pos h0 h8))
  clear hs hc2 bz bmz
  obtain ⟨i0, hi, hz0, hz1, hz2⟩ := info_parts info3
  have HI := Lib.hid hi
  have HZ0 := Lib.hid hz0
  have HZ1 := Lib.hid hz1
  have HZ2 := Lib.hid hz2
  clear hi hz0 hz1 hz2
  go_enter Tryd.func38, Tryd.ntmps38
  go_wp2_with fail
  refine HCP.out.mono ?_
  rintro e w1 ⟨vr, rfl, hown1, hb1⟩
  obtain ⟨gr, capr, rfl, hgr, hvr⟩ := OwnV.of_owns hown1 (by omega)
  have HVR := Lib.hid hvr
  have hgr1 := hvr.lt
  clear hown1 hvr HCP
  go_wp2_with fail
  go_loopw [9, 10] (fun v i wr => ∃ i2 : Nat, i = .int .i64 i2 ∧ i2 ≤ l.length ∧ wr.ownsRow w1.heap.size 3 1 v i2 (xsF (fun _ => 0) i2) ∧ Below w1.heap.size w1 wr) (fun _ i _ => l.length - (intOf i).toNat)
  case atStart => exact ⟨0, rfl, Nat.zero_le _, own_empty w1 _, (Below.refl _ _).alloc (Nat.le_refl _) _⟩
  case round =>
    obtain ⟨i, rfl, hil, hown, hnx⟩ := hrel
    by_cases h1 : i < l.length
    · have hd1 : decide ((i : Int) < l.length) = true := decide_eq_true (by omega)
      have hs := hnx.size
      go_wp2_with (at_builtin; refine wpList_append_own _ rfl _ _ 24 rfl w1.heap.size 3 i0 (.int .i64 0) 1 8 Tryd.underlying24 HI.out HZ0.out HZ1.out HZ2.out rfl (by decide) _ _ _ rfl (hown.alloc _) ⟨wr.heap.size, 0, none⟩ 1 1 [.int .i64 0] rfl rfl ?c1 ?c2 ?c3 ?c4 ?c5 ?_)
      case c1 => exact cell_one_new _ _ _
      case c2 => intro u hu; simp at hu; subst hu; rfl
      case c3 => unfold maxLen; omega
      case c4 => omega
      case c5 => simp; omega
      intro v' w2 hown' hgrow _
      have hbel : Below w1.heap.size w1 w2 := (hnx.alloc hs _).grown hgrow (by simp; omega) (own_ge hown)
      rw [xsF_succ (fun _ => 0)] at hown'
      clear hgrow hown
      go_wp2
      go_roundw
      case rel => exact ⟨i + 1, by go_num, by omega, hown', hbel⟩
      case measure => simp [intOf]; omega
    · have hd1 : decide ((i : Int) < l.length) = false := decide_eq_false (by omega)
      obtain rfl : i = l.length := by omega
      have hbw := below_up hb1 hnx hb1.size
      have c2 : wr.cell? ⟨b2, off2 + k, none⟩ = some (.int .i64 (lf m k)) := (hbw.cell (p := ⟨b2, off2 + k, none⟩) hlt2).trans (HC2.out k (by omega))
      obtain ⟨gq, capq, rfl, hgq, hvq⟩ := OwnV.of_owns hown (by omega)
      have HVQ := Lib.hid hvq
      have HVR1 := Lib.hid (HVR.out.keep hnx)
      have HSTEP : Hid (∀ (s : Nat) (Q R : Nat → Int), DivAt f (lf l) m (s + k + 1) Q R → DivAt f (lf l) m (s + k) (upd Q s (RS (R (s + k) * mPower f (lf m k) (-1)) (P f))) (dst f m R (RS (R (s + k) * mPower f (lf m k) (-1)) (P f)) s (k + 1))) := Lib.hid fun s Q R h => h.stepK h0 h8 hk HINV.out
      have HMU : Hid (∀ x y w, Calls Tryd.prog 23 #[.int .i64 f, .int .i64 x, .int .i64 y] w fun e w' => e = .returned (.int .i64 (RS (x * y) (P f))) ∧ w = w') := Lib.hid fun x y w => by have := sMul f x y w; rwa [mMul_on h0 h8] at this
      have HSU : Hid (∀ x y w, Calls Tryd.prog 66 #[.int .i64 f, .int .i64 x, .int .i64 y] w fun e w' => e = .returned (.int .i64 (RS (x - y) (P f))) ∧ w = w') := Lib.hid fun x y w => by have := sSub f x y w; rwa [mSub_on h0 h8] at this
      clear hown hvq HVR HINV
      go_wp2_with fail
      refine (sInverse f (lf m k) wr).mono ?_
      rintro e w' ⟨rfl, rfl⟩
      generalize mPower f (lf m k) (-1) = V at *
      go_wp2_with fail
      go_loopw [12, 13, 14] (fun ns _ _ wr => ∃ (nI : Int) (n' : Nat) (Q R : Nat → Int), ns = .int .i64 nI ∧ nI = n' ∧ n' ≤ l.length ∧ Hid (DivAt f (lf l) m n' Q R) ∧ Hid (∀ j, l.length ≤ j → Q j = 0) ∧ OwnV wr gq l.length capq Q ∧ OwnV wr gr l.length capr R ∧ Below w.heap.size w wr) (fun ns _ _ _ => (intOf ns).toNat)
      case atStart => exact ⟨_, l.length, fun _ => 0, lf l, rfl, rfl, Nat.le_refl _, HST, Lib.hid (fun _ _ => rfl), HVQ.out, HVR1.out, hbw⟩
      case round =>
        clear HVQ HVR1 hbw c2 HST
        obtain ⟨nI, n', Q, R, rfl, hnI, hnn, HD, HZ, hoq, hor, hb⟩ := hrel
        by_cases hge : k + 1 ≤ n'
        · obtain ⟨s, rfl⟩ : ∃ s, n' = s + k + 1 := ⟨n' - (k + 1), by omega⟩
          have hdk : decide ((k : Int) + 1 ≤ nI) = true := decide_eq_true (by omega)
          have hsk : s + k < l.length := by omega
          have hsM : s < l.length := by omega
          have cR := hor.cell hsk
          have cQ := hoq.cell hsM
          have fQ := hoq.frozen s
          have e1 : nI - 1 = (s : Int) + k := by omega
          have e2 : nI - ((k : Int) + 1) = (s : Int) := by omega
          have hnI1 : nI ≤ 4096 := by omega
          have hnI2 : (k : Int) + 1 ≤ nI := by omega
          have hskI : (s : Int) + k < l.length := by omega
          have hsI : (s : Int) < l.length := by omega
          have hneq : nI ≤ (s : Int) + k + 1 := by omega
          have hneq2 : (s : Int) + k + 1 ≤ nI := by omega
          have HN := Lib.hid (HSTEP.out s Q R HD.out)
          have HQ' := Lib.hid (OwnV.set (s := s) (x := RS (R (s + k) * V) (P f)) hoq)
          have HR' := Lib.hid (OwnV.other (s := s) (v := .int .i64 (RS (R (s + k) * V) (P f))) hor (show gr ≠ gq by omega))
          have HB' := Lib.hid (hb.setCell (p := ⟨gq, s, none⟩) (show w.heap.size ≤ gq by have := hb1.size; omega) (.int .i64 (RS (R (s + k) * V) (P f))))
          have HZ' : Hid (∀ j, l.length ≤ j → upd Q s (RS (R (s + k) * V) (P f)) j = 0) := Lib.hid (fun j hj => by unfold upd; rw [if_neg (by omega)]; exact HZ.out j hj)
          have HRb := Lib.hid HD.out.2.1
          clear HD HZ hoq hor hnI
          go_wp2_with fail
          refine (HMU.out (R (s + k)) V wr).mono ?_
          rintro e w' ⟨rfl, rfl⟩
          generalize hfac : RS (R (s + k) * V) (P f) = fac at *
          go_wp2_with fail
          obtain ⟨W1, hW1⟩ : ∃ W1, wr.setCell ⟨gq, s, none⟩ (.int .i64 fac) = W1 := ⟨_, rfl⟩
          rw [hW1] at HQ' HR' HB' ⊢
          have HR2 : Hid (OwnV W1 gr l.length capr (dst f m R fac s 0)) := Lib.hid (HR'.out.congr (fun j _ => (dst_zero f m R fac s j).symm))
          clear hW1 HR' cR cQ fQ hb
          go_loopw [14] (fun i W => ∃ j : Nat, i = .int .i64 j ∧ j ≤ k + 1 ∧ OwnV W gr l.length capr (dst f m R fac s j) ∧ OwnV W gq l.length capq (upd Q s fac) ∧ Below w.heap.size w W) (fun i _ => k + 1 - (intOf i).toNat)
          case atStart => exact ⟨0, rfl, Nat.zero_le _, HR2.out, HQ'.out, HB'.out⟩
          case round =>
            clear HR2 HQ' HB'
            obtain ⟨j, rfl, hj, hor, hoq, hb⟩ := hrel
            by_cases hjk : j < k + 1
            · have hdj : decide ((j : Int) < (k : Int) + 1) = true := decide_eq_true (by omega)
              have d2 : wr.cell? ⟨b2, off2 + j, none⟩ = some (.int .i64 (lf m j)) := (hb.cell (p := ⟨b2, off2 + j, none⟩) hlt2).trans (HC2.out j hjk)
              have hsj : s + j < l.length := by omega
              have hor1 : OwnV wr.drew gr l.length capr (dst f m R fac s j) := hor
              have hoq1 : OwnV wr.drew gq l.length capq (upd Q s fac) := hoq
              have hb3 : Below w.heap.size w wr.drew := ⟨hb.os, hb.tape, hb.output, hb.size, hb.block⟩
              have cR := hor.cell hsj
              rw [dst_at] at cR
              have fR := hor1.frozen (s + j)
              have cR1 := hor1.cell hsj
              rw [dst_at] at cR1
              have HS1 : Hid (OwnV (wr.drew.setCell ⟨gr, s + j, none⟩ (.int .i64 (RS (R (s + j) - RS (fac * lf m j) (P f)) (P f)))) gr l.length capr (dst f m R fac s (j + 1))) := Lib.hid ((OwnV.set (s := s + j) hor1).congr (fun x _ => by rw [dst_succ]; rfl))
              have HS2 := Lib.hid (OwnV.other (s := s + j) (v := .int .i64 (RS (R (s + j) - RS (fac * lf m j) (P f)) (P f))) hoq1 (show gq ≠ gr by omega))
              have HS3 := Lib.hid (hb3.setCell (p := ⟨gr, s + j, none⟩) (show w.heap.size ≤ gr by omega) (.int .i64 (RS (R (s + j) - RS (fac * lf m j) (P f)) (P f))))
              have hw0 : IntKind.i64.wrap (nI - ((k : Int) + 1)) = (s : Int) := by rw [e2]; exact IntWalk.i64_in _ (by omega)
              have hw00 : IntKind.i64.wrap (s : Int) = (s : Int) := IntWalk.i64_in _ (by omega)
              have hw : IntKind.i64.wrap ((s : Int) + j) = (s : Int) + j := IntWalk.i64_in _ (by omega)
              have hi1 : (0 : Int) ≤ (s : Int) + j := by omega
              have hi2 : (s : Int) + j < (l.length : Int) := by omega
              have hi3 : ((s : Int) + j).toNat = s + j := by omega
              have hi4 : (j : Int) < (k : Int) + 1 := by omega
              clear hor hoq hor1 hoq1
              go_wp2
              refine wp_region_still_tail 26 (by kernel_rfl) (by kernel_rfl) ?_
              simp only [List.take_succ_cons, List.take_zero, List.drop_succ_cons, List.drop_zero]
              still_step
              still_step
              still_step
              still_step
              still_step
              still_step
              still_step
              still_step
              still_step
              still_step
              still_step
              still_step
              still_step
              still_step
              still_step
              still_step
              still_step
              still_step
              still_step
              still_step
              still_step
              still_step
              still_step
              still_call ((HMU.out fac (lf m j) wr.drew).mono fun _ _ h => ⟨h.1, h.2.symm⟩)
              still_call ((HSU.out (R (s + j)) (RS (fac * lf m j) (P f)) wr.drew).mono fun _ _ h => ⟨h.1, h.2.symm⟩)
              still_step
              refine wpStill_nil ?_
              change wpList _ _ _ _ _ wr.drew
              clear hw hw0 hw00 hi1 hi2 hi3 hi4 cR d2
              generalize wr.drew = W2 at *
              go_wp2
              go_roundw
              case rel => exact ⟨j + 1, by go_num, by omega, HS1.out, HS2.out, HS3.out⟩
              case measure => simp [intOf] <;> omega
            · have hdj : decide ((j : Int) < (k : Int) + 1) = false := decide_eq_false (by omega)
              obtain rfl : j = k + 1 := by omega
              have HOR := Lib.hid hor
              have HOQ := Lib.hid hoq
              clear hor hoq e2
              go_wp2
              go_roundw
              case rel => exact ⟨_, s + k, upd Q s fac, dst f m R fac s (k + 1), rfl, by omega, by omega, HN, HZ', HOQ.out, HOR.out, hb⟩
              case measure => simp [intOf] <;> omega
        · have hdk : decide ((k : Int) + 1 ≤ nI) = false := decide_eq_false (by omega)
          have HCQ := Lib.hid (cut_c (some ⟨gq, 0, none⟩) l.length capq Q wr (by omega) (by obtain ⟨_, _, h, _⟩ := hoq; exact h) hoq.src)
          have hcapr : l.length ≤ capr := by obtain ⟨_, _, h, _⟩ := hor; exact h
          have HSR := Lib.hid hor.src
          have HF : Hid (DivP f l m (cutL l.length Q) (cutL l.length R)) := Lib.hid (HD.out.divP (by omega) (by omega) hnn HZ.out)
          clear hoq hor HD HZ hnI
          go_wp2_with fail
          refine HCQ.out.mono ?_
          rintro e w4 hoq
          obtain ⟨aq, capq2, rfl, hsq, hb4⟩ := hoq.list
          have HSQ := Lib.hid hsq
          have HCR := Lib.hid (cut_c (some ⟨gr, 0, none⟩) l.length capr R w4 (by omega) hcapr (HSR.out.keep hb4))
          clear hoq hsq HCQ
          go_wp2_with fail
          refine HCR.out.mono ?_
          rintro e w5 hor
          obtain ⟨ar, capr2, rfl, hsr, hb5⟩ := hor.list
          have HRES : Hid (Src w5 aq (cutL l.length Q).length (lf (cutL l.length Q)) ∧ Src w5 ar (cutL l.length R).length (lf (cutL l.length R)) ∧ Below w.heap.size w w5) := Lib.hid ⟨HSQ.out.keep hb5, hsr, below_up (below_up hb hb4 hb.size) hb5 (Nat.le_trans hb.size hb4.size)⟩
          clear hor hsr HCR HSQ
          go_wp2
          go_ret2
          exact ⟨aq, capq2, ar, capr2, _, _, rfl, HF.out, HRES.out⟩
theorem ldiv_c (f : Int) (a a2 : Option Addr) (l m : List Int) (cap cap2 : Nat) (w : World) (h0 : 0 ≤ f) (h8 : f ≤ 8) (hn : l.length ≤ 4096) (hn2 : m.length ≤ 4096) (hz : m.length ≠ 0) (hl : Pol f l) (hm : Pol f m) (hs : Src w a l.length (lf l)) (hs2 : Src w a2 m.length (lf m)) :
    Calls Tryd.prog 38 #[.int .i64 f, .slice a l.length cap, .slice a2 m.length cap2] w (DivS f l m w) := by
  obtain ⟨k, hk⟩ : ∃ k, m.length = k + 1 := ⟨m.length - 1, by omega⟩
  rcases hs2 with h | ⟨b2, off2, rfl, hlt2, hc2⟩
  · exact absurd h hz
  · have hk2 : k + 1 ≤ 4096 := by omega
    rw [hk] at hc2
    have e : #[Value.int .i64 f, .slice a l.length cap, .slice (some ⟨b2, off2, none⟩) m.length cap2] = #[Value.int .i64 f, .slice a l.length cap, .slice (some ⟨b2, off2, none⟩) (k + 1) cap2] := by rw [hk]
    rw [e]
    by_cases h : l.length < k + 1
    · exact ldiv_lt f a b2 off2 k l m cap cap2 w h0 h8 hn hk hk2 h hl hm hs hlt2 hc2
    · exact ldiv_ge f a b2 off2 k l m cap cap2 w h0 h8 hn hk hk2 (by omega) hl hm hs hlt2 hc2
end Go.Proofs.YtcenglbcibkniaaDoor
