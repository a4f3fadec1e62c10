/-
  Texts of the proofs of this seat, joined (part 3).
-/
import Derived.Deep.CutBlock
import Derived.Deep.CutRange
import Derived.Outline
import Derived.Laws.IdiomStrings
import Derived.Test.YtaapmpjkcddababDoorJ2
namespace Go.Proofs.YtaapmpjkcddababDoor
open Go.RowKit
def SizeM (m : Int) (w : World) (e : Ending) (w' : World) : Prop := ∃ r : Int, e = .returned (.int .i64 r) ∧ 1 ≤ r ∧ r ≤ m ∧ w = w'
theorem sizeM_c (a : Option Addr) (len cap : Nat) (m : Int) (w : World) (hl : len ≤ 1048576) (m0 : 1 ≤ m) (m1 : m ≤ 1000) : Calls Tryd.prog 51 #[.slice a len cap, .int .i64 m] w (SizeM m w) := by
  by_cases h : m < 2 + (len : Int) / 16
  · go_enter Tryd.func51, Tryd.ntmps51
    go_wp2
    go_ret
    exact ⟨m, rfl, by omega, by omega, rfl⟩
  · go_enter Tryd.func51, Tryd.ntmps51
    go_wp2
    go_ret
    exact ⟨_, rfl, by omega, by omega, rfl⟩
/-- The state of the loop that draws a list: the cursor's block is g. -/
def ZAt (g : Nat) (w wr : World) (v : Value) (k : Nat) : Prop := (∃ F, wr.ownsRow w.heap.size 3 1 v k (xsF F k)) ∧ Cur g wr ∧ w.grownBy wr (some g) ∧ w.heap.size ≤ wr.heap.size
theorem zxs_more (F : Nat → Int) (k : Nat) (x : Int) : xsF F k ++ [.int .i64 x] = xsF (fun j => if j < k then F j else x) (k + 1) := by
  rw [← xsF_succ, xsF_congr (F := F) (G := fun j => if j < k then F j else x) (fun j hj => by simp [hj])]
  simp
theorem zown_ne {wr : World} {B g : Nat} {v : Value} {k : Nat} {xs : List Value} (hB : g < B) (h : wr.ownsRow B 3 1 v k xs) : v.ownBlock = none ∨ v.ownBlock ≠ some g := by
  refine .inr fun e => ?_
  have := own_ge h g e
  omega
/-- Growth that writes only into a block made since is growth that writes only into g. -/
theorem grown_new {w w1 w2 : World} {g : Nat} {row : Option Nat} (h1 : w.grownBy w1 (some g)) (h2 : w1.grownBy w2 row) (hr : ∀ k, row = some k → w.heap.size ≤ k) : w.grownBy w2 (some g) :=
  ⟨h2.os.trans h1.os, h2.tape.trans h1.tape, h2.output.trans h1.output, Nat.le_trans h1.size h2.size, fun i hi hne => (h2.block i (Nat.lt_of_lt_of_le hi h1.size) (fun e => by have := hr i e.symm; omega)).trans (h1.block i hi hne)⟩
theorem zdraw_step {g : Nat} {w w1 w2 : World} {v v' : Value} {k : Nat} {x : Int} {F : Nat → Int} {o : Obj} (hB : g < w.heap.size) (g1 : w.grownBy w1 (some g)) (c1 : Cur g w1) (hown1 : w1.ownsRow w.heap.size 3 1 v k (xsF F k))
    (hown' : w2.ownsRow w.heap.size 3 1 v' (k + 1) (xsF F k ++ [.int .i64 x])) (hgrow : (w1.alloc o).grownBy w2 v.ownBlock) : ZAt g w w2 v' (k + 1) := by
  have hge := own_ge hown1
  have hg := grown_new (g1.trans (World.grownBy_alloc w1 o (some g))) hgrow hge
  exact ⟨⟨_, by rw [zxs_more] at hown'; exact hown'⟩, (c1.alloc o).other hgrow (fun r hr => by have := hge r hr; omega), hg, hg.size⟩
/-- A list apart from the cursor. -/
def SrcO (g : Nat) (w : World) (a : Option Addr) (n : Nat) (F : Nat → Int) : Prop :=
  n = 0 ∨ ∃ b off, a = some ⟨b, off, none⟩ ∧ b ≠ g ∧ b < w.heap.size ∧ ∀ j, j < n → w.cell? ⟨b, off + j, none⟩ = some (.int .i64 (F j))
theorem SrcO.src {g : Nat} {w : World} {a : Option Addr} {n : Nat} {F : Nat → Int} (h : SrcO g w a n F) : Src w a n F := by
  refine h.imp id ?_
  rintro ⟨b, off, e, _, hlt, hc⟩
  exact ⟨b, off, e, hlt, hc⟩
theorem SrcO.grown {g : Nat} {w w' : World} {a : Option Addr} {n : Nat} {F : Nat → Int} (h : SrcO g w a n F) (hg : w.grownBy w' (some g)) : SrcO g w' a n F := by
  refine h.imp id ?_
  rintro ⟨b, off, e, hne, hlt, hc⟩
  exact ⟨b, off, e, hne, Nat.lt_of_lt_of_le hlt hg.size, fun j hj => hg.cell (hc j hj) (fun e => by injection e with e; exact hne e)⟩
theorem SrcO.of {B g : Nat} {w : World} {v : Value} {n : Nat} {F : Nat → Int} (h : w.ownsRow B 3 1 v n (xsF F n)) (hB : g < B) : ∃ a cap, v = .slice a n cap ∧ n ≤ cap ∧ SrcO g w a n F := by
  by_cases hn : n = 0
  · obtain ⟨a, cap, hv, hc, _⟩ := src_of_owns2 h
    exact ⟨a, cap, hv, hc, .inl hn⟩
  · obtain ⟨g2, cap, hv, hg, ho⟩ := OwnV.of_owns h hn
    have hcap : n ≤ cap := by obtain ⟨_, _, h, _⟩ := ho; exact h
    exact ⟨_, cap, hv, hcap, .inr ⟨g2, 0, rfl, by omega, ho.lt, fun j hj => by rw [Nat.zero_add]; exact ho.cell hj⟩⟩
theorem grown_of_below {w w' : World} (g : Nat) (hb : Below w.heap.size w w') : w.grownBy w' (some g) :=
  ⟨hb.os, hb.tape, hb.output, hb.size, fun i hi _ => hb.block i hi⟩
theorem Cur.below {g : Nat} {w w' : World} (h : Cur g w) (hb : Below w.heap.size w w') : Cur g w' :=
  h.other (row := none) ⟨hb.os, hb.tape, hb.output, hb.size, fun i hi _ => hb.block i hi⟩ (fun _ h => by cases h)
/-- The drawn list, in a row of the draw's own. -/
def ZPol (g : Nat) (w : World) (n : Nat) (e : Ending) (w' : World) : Prop := ∃ (l : List Int) (a : Option Addr) (cap : Nat), e = .returned (.slice a l.length cap) ∧ l.length ≤ n ∧ l.length ≤ cap ∧ SrcO g w' a l.length (lf l) ∧ Cur g w' ∧ w.grownBy w' (some g)
theorem ZPol.of {g : Nat} {w w' : World} {v : Value} {n : Nat} {l : List Int} (h : w'.ownsRow w.heap.size 3 1 v l.length (xsF (lf l) l.length)) (hB : g < w.heap.size) (hl : l.length ≤ n) (hc : Cur g w') (hg : w.grownBy w' (some g)) : ZPol g w n (.returned v) w' := by
  obtain ⟨a, cap, rfl, hcap, hs⟩ := SrcO.of h hB
  exact ⟨l, a, cap, rfl, hl, hcap, hs, hc, hg⟩
theorem lf_tabF (n : Nat) (F : Nat → Int) : xsF (lf (tab n F)) n = xsF F n := xsF_congr fun j hj => by rw [lf_tab, if_pos hj]
/-- The row, its last number written anew. -/
theorem owns_to_tab {w : World} {B n : Nat} {v : Value} {F : Nat → Int} (h : w.ownsRow B 3 1 v n (xsF F n)) : w.ownsRow B 3 1 v (tab n F).length (xsF (lf (tab n F)) (tab n F).length) := by
  rw [tab_len, lf_tabF]
  exact h
end Go.Proofs.YtaapmpjkcddababDoor
namespace Go.Proofs.YtaapmpjkcddababDoor
open Go.RowKit
theorem OwnV.grown {g : Nat} {w w' : World} {g2 n cap : Nat} {F : Nat → Int} (h : OwnV w g2 n cap F) (hg : w.grownBy w' (some g)) (hne : g2 ≠ g) : OwnV w' g2 n cap F := by
  obtain ⟨V, h1, h2, h3⟩ := h
  have hlt := OwnV.lt ⟨V, h1, h2, h3⟩
  exact ⟨V, World.rowIs.of_block h1 (hg.block g2 hlt (fun e => by injection e with e; exact hne e)), h2, h3⟩
/-- A drawn list, whose row may still be written. -/
def ZVal (g : Nat) (w : World) (n : Nat) (v : Value) (w' : World) : Prop := ∃ l : List Int, l.length ≤ n ∧ (∃ B, g < B ∧ w.heap.size ≤ B ∧ w'.ownsRow B 3 1 v l.length (xsF (lf l) l.length)) ∧ Cur g w' ∧ w.grownBy w' (some g)
theorem ZVal.of {g : Nat} {w w' : World} {n : Nat} {v : Value} (hB : g < w.heap.size) (h : ZAt g w w' v n) : ZVal g w n v w' := by
  obtain ⟨⟨F, ho⟩, hc, hg, hs⟩ := h
  exact ⟨tab n F, by rw [tab_len]; exact Nat.le_refl _, ⟨w.heap.size, hB, Nat.le_refl _, owns_to_tab ho⟩, hc, hg⟩
theorem ZVal.grown {g : Nat} {w w1 w2 : World} {n : Nat} {v : Value} (h : ZVal g w n v w1) (hg : w1.grownBy w2 (some g)) (hc : Cur g w2) : ZVal g w n v w2 := by
  obtain ⟨l, hl, ⟨B, hB, hB2, ho⟩, _, hg1⟩ := h
  exact ⟨l, hl, ⟨B, hB, hB2, ho.kept hg (zown_ne hB ho)⟩, hc, hg1.trans hg⟩
theorem ZVal.cut {g : Nat} {w w1 : World} {n : Nat} {v : Value} (h : ZVal g w n v w1) (hn : n ≤ 4096) : Calls Tryd.prog 58 #[v] w1 fun e w2 => ∃ v2, e = .returned v2 ∧ ZVal g w n v2 w2 := by
  obtain ⟨l, hl, ⟨B, hB, hB2, ho⟩, hc, hg⟩ := h
  refine (cut_own (by omega) ho).mono ?_
  rintro e w2 ⟨v2, rfl, ho2, hb⟩
  have hle := cutL_le l.length (lf l)
  exact ⟨v2, rfl, cutL l.length (lf l), by omega, ⟨w1.heap.size, by have := hc.lt; omega, hg.size, ho2⟩, hc.below hb, hg.trans (grown_of_below g hb)⟩
theorem ZVal.pol {g : Nat} {w w1 : World} {n : Nat} {v : Value} (h : ZVal g w n v w1) : ZPol g w n (.returned v) w1 := by
  obtain ⟨l, hl, ⟨B, hB, hB2, ho⟩, hc, hg⟩ := h
  obtain ⟨a, cap, rfl, hcap, hs⟩ := SrcO.of ho hB
  exact ⟨l, a, cap, rfl, hl, hcap, hs, hc, hg⟩
/-- The value is a slice: empty, or a row that can be written. -/
theorem ZVal.cases {g : Nat} {w w1 : World} {n : Nat} {v : Value} (h : ZVal g w n v w1) : ∃ (l : List Int) (a : Option Addr) (cap : Nat), v = .slice a l.length cap ∧ l.length ≤ n ∧ (l.length = 0 ∨ ∃ g2, a = some ⟨g2, 0, none⟩ ∧ g2 ≠ g ∧ w.heap.size ≤ g2 ∧ OwnV w1 g2 l.length cap (lf l)) := by
  obtain ⟨l, hl, ⟨B, hB, hB2, ho⟩, hc, hg⟩ := h
  by_cases hz : l.length = 0
  · obtain ⟨a, cap, rfl, hcap, hs⟩ := SrcO.of ho hB
    exact ⟨l, a, cap, rfl, hl, .inl hz⟩
  · obtain ⟨g2, cap, rfl, hg2, ho2⟩ := OwnV.of_owns ho hz
    exact ⟨l, _, cap, rfl, hl, .inr ⟨g2, rfl, by omega, by omega, ho2⟩⟩
end Go.Proofs.YtaapmpjkcddababDoor
namespace Go.Proofs.YtaapmpjkcddababDoor
open Go.RowKit
/-- A byte of the code, or a number below 256. -/
theorem byteAt_c (a : Option Addr) (len cap i : Nat) (w : World) (hl : len ≤ 1048576) (hi : i ≤ 1000) (hc : Code w a len) : Calls Tryd.prog 27 #[.slice a len cap, .int .i64 i] w fun e w' => ∃ x : Int, e = .returned (.int .i64 x) ∧ 0 ≤ x ∧ x < 256 ∧ w = w' := by
  by_cases h : i < len
  · have hd : decide ((i : Int) < len) = true := decide_eq_true (by omega)
    rcases hc.2 with hz | ⟨b, off, rfl, hne, hlt, hb⟩
    · omega
    · obtain ⟨n, n0, n1, hcell⟩ := hb i h
      go_enter Tryd.func27, Tryd.ntmps27
      go_wp2
      go_ret
      exact ⟨n, rfl, n0, n1, rfl⟩
  · have hd : decide ((i : Int) < len) = false := decide_eq_false (by omega)
    go_enter Tryd.func27, Tryd.ntmps27
    go_wp2
    go_ret
    exact ⟨_, rfl, by omega, by omega, rfl⟩
end Go.Proofs.YtaapmpjkcddababDoor
namespace Go.Proofs.YtaapmpjkcddababDoor
open Go.RowKit
theorem zput5 {g : Nat} {w w1 w2 : World} {N n k g2 cap : Nat} {F : Nat → Int} {y : Int} (hn : n ≤ N) (hne : g2 ≠ g) (h2 : w.heap.size ≤ g2) (ho : OwnV w1 g2 n cap F) (hg : w.grownBy w1 (some g)) (g3 : w1.grownBy w2 (some g)) (hc : Cur g w2) (hgl : g < w.heap.size) :
    ZPol g w N (.returned (.slice (some ⟨g2, 0, none⟩) n cap)) (w2.setCell ⟨g2, k, none⟩ (.int .i64 y)) := by
  have ho2 := ho.grown g3 hne
  have ho3 := OwnV.set (s := k) (x := y) ho2
  have hcap : n ≤ cap := by obtain ⟨_, _, h, _⟩ := ho; exact h
  have hg3 : w.grownBy w2 (some g) := hg.trans g3
  have hset : w2.grownBy (w2.setCell ⟨g2, k, none⟩ (.int .i64 y)) (some g2) := grown_set (World.grownBy.refl _ _) _ _
  refine ⟨tab n (upd F k y), some ⟨g2, 0, none⟩, cap, by rw [tab_len], by rw [tab_len]; exact hn, by rw [tab_len]; exact hcap, ?_, ?_, ?_⟩
  · rw [tab_len]
    refine .inr ⟨g2, 0, rfl, hne, ho3.lt, fun j hj => ?_⟩
    rw [Nat.zero_add, ho3.cell hj, lf_tab, if_pos hj]
  · exact hc.other hset (fun r hr => by injection hr with hr; omega)
  · exact grown_new hg3 hset (fun r hr => by injection hr with hr; omega)
theorem six (Q : Int → Prop) {a b c d e f : Int} (h : Q a ∧ Q b ∧ Q c ∧ Q d ∧ Q e ∧ Q f) : ∀ j, j < (#[Value.int .i64 a, .int .i64 b, .int .i64 c, .int .i64 d, .int .i64 e, .int .i64 f] : Array Value).size → ∃ n : Int, (#[Value.int .i64 a, .int .i64 b, .int .i64 c, .int .i64 d, .int .i64 e, .int .i64 f] : Array Value)[j]? = some (.int .i64 n) ∧ Q n := fun j hj => by
  have h3 : j = 0 ∨ j = 1 ∨ j = 2 ∨ j = 3 ∨ j = 4 ∨ j = 5 := by have : j < 6 := hj; omega
  obtain ⟨h0, h1, h2, h4, h5, h6⟩ := h
  rcases h3 with rfl | rfl | rfl | rfl | rfl | rfl
  · exact ⟨_, rfl, h0⟩
  · exact ⟨_, rfl, h1⟩
  · exact ⟨_, rfl, h2⟩
  · exact ⟨_, rfl, h4⟩
  · exact ⟨_, rfl, h5⟩
  · exact ⟨_, rfl, h6⟩
set_option maxRecDepth 100000 in
set_option maxHeartbeats 3200000 in
theorem drawTerms_c (g n : Nat) (w : World) (hc : Cur g w) (hn : n ≤ 1000) : Calls Tryd.prog 49 #[.pointer (some ⟨g, 0, none⟩), .int .i64 n] w (ZPol g w n) := by
  obtain ⟨i0, hi, hz0, hz1, hz2⟩ := info_parts info3
  have HI := Lib.hid hi
  have HZ0 := Lib.hid hz0
  have HZ1 := Lib.hid hz1
  have HZ2 := Lib.hid hz2
  clear hi hz0 hz1 hz2
  have hB : g < w.heap.size := hc.lt
  go_enter Tryd.func49, Tryd.ntmps49
  go_wp2_with fail
  go_loopw [5, 6] (fun v i wr => ∃ k : Nat, i = .int .i64 k ∧ k ≤ n ∧ ZAt g w wr v k) (fun _ i _ => n - (intOf i).toNat)
  case atStart => exact ⟨0, rfl, by omega, ⟨fun _ => 0, own_empty w (fun _ => 0)⟩, hc.alloc _, World.grownBy_alloc _ _ _, by simp⟩
  case round =>
    obtain ⟨k, rfl, hk, ⟨F, hown⟩, hcur, hbel, hsz⟩ := hrel
    by_cases hlt : k < n
    · have hd : decide ((k : Int) < n) = true := decide_eq_true (by omega)
      go_wp2_with fail
      refine (below_c g 1000001 wr hcur (by omega) (by omega)).mono ?_
      rintro e w1 ⟨x1, ⟨p1, q1⟩, rfl, g1, c1⟩
      go_wp2_with fail
      refine (below_c g 1000001 w1 c1 (by omega) (by omega)).mono ?_
      rintro e w2 ⟨x2, ⟨p2, q2⟩, rfl, g2, c2⟩
      have g12 := g1.trans g2
      clear g1 g2 c1 hcur
      go_wp2_with fail
      refine (below_c g 9 w2 c2 (by omega) (by omega)).mono ?_
      rintro e w3 ⟨x3, ⟨p3, q3⟩, rfl, g3, c3⟩
      have g13 := g12.trans g3
      clear g12 g3 c2
      go_wp2_with fail
      refine (pick_c (fun _ => True) g w3.heap.size 6 6 _ (c3.alloc _) (by omega) (by omega) (ints_alloc (fun _ => True) c3.lt _ 3 (six (fun _ => True) ⟨trivial, trivial, trivial, trivial, trivial, trivial⟩))).mono ?_
      rintro e w9 ⟨x9, _, rfl, g4, c9⟩
      have g9 := g13.trans ((World.grownBy_alloc w3 _ (some g)).trans g4)
      have hown9 := hown.kept g9 (zown_ne hB hown)
      have hb9 := hbel.trans g9
      have hs9 : w.heap.size ≤ w9.heap.size := Nat.le_trans hsz g9.size
      clear hown hbel g9 g4 g13 c3
      go_wp2_with (at_builtin; refine wpList_append_own _ rfl _ _ 36 rfl w.heap.size 3 i0 (.int .i64 0) 1 8 Tryd.underlying36 HI.out HZ0.out HZ1.out HZ2.out rfl (by decide) _ _ _ rfl (hown9.alloc _) ⟨w9.heap.size, 0, none⟩ 1 1 [.int .i64 x9] rfl rfl ?c1 ?c2 ?c3 ?c4 ?c5 ?_)
      case c1 => exact cell_one_new _ _ _
      case c2 => intro u hu; simp at hu; subst hu; rfl
      case c3 => unfold maxLen; omega
      case c4 => omega
      case c5 => simp; omega
      intro v' w10 hown' hgrow _
      have hst := zdraw_step hB hb9 c9 hown9 hown' hgrow
      clear hgrow hown' hown9 c9 hb9
      go_wp2
      go_roundw
      case rel => exact ⟨k + 1, by go_num, by omega, hst⟩
      case measure => simp [intOf]; omega
    · have hd : decide ((k : Int) < n) = false := decide_eq_false (by omega)
      obtain rfl : k = n := by omega
      have HZ := Lib.hid (ZVal.of hB (show ZAt g w wr _ k from ⟨⟨F, hown⟩, hcur, hbel, hsz⟩))
      by_cases hk0 : k = 0
      · subst hk0
        clear hown hbel
        go_wp2_with fail
        refine (once_c g 15 wr hcur (by omega) (by omega)).mono ?_
        rintro e w1 ⟨b1, rfl, g1, c1⟩
        have HP := Lib.hid (HZ.out.grown g1 c1).pol
        clear HZ g1 hcur
        cases b1
        · go_wp2
          go_ret
          exact HP.out
        · go_wp2
          go_ret
          exact HP.out
      · obtain ⟨g2, cap2, rfl, hg2, ho2⟩ := OwnV.of_owns hown hk0
        have hne : g2 ≠ g := by omega
        have dk : decide ((0 : Int) < k) = true := decide_eq_true (by omega)
        clear hown
        go_wp2_with fail
        refine (once_c g 15 wr hcur (by omega) (by omega)).mono ?_
        rintro e w1 ⟨b1, rfl, g1, c1⟩
        have HP := Lib.hid (HZ.out.grown g1 c1).pol
        have ho3 := ho2.grown g1 hne
        have hb1 := hbel.trans g1
        clear HZ g1 hcur ho2 hbel
        cases b1
        · clear ho3
          go_wp2
          go_ret
          exact HP.out
        · clear HP
          go_wp2_with fail
          refine (below_c g k w1 c1 (by omega) (by omega)).mono ?_
          rintro e w2 ⟨t, ⟨t0, t1⟩, rfl, g4, c2⟩
          obtain ⟨t, rfl⟩ := Int.eq_ofNat_of_zero_le t0
          have ho4 := ho3.grown g4 hne
          have hb2 := hb1.trans g4
          clear ho3 hb1 g4 c1
          go_wp2_with fail
          refine (pick_c (fun _ => True) g w2.heap.size 2 2 _ (c2.alloc _) (by omega) (by omega) (ints_alloc (fun _ => True) c2.lt #[.int .i64 1000001, .int .i64 (-1000001)] 3 (fun j hj => by
            have h3 : j = 0 ∨ j = 1 := by have : j < 2 := hj; omega
            rcases h3 with rfl | rfl <;> exact ⟨_, rfl, trivial⟩))).mono ?_
          rintro e w10 ⟨y, _, rfl, g10, c10⟩
          have g10' := (World.grownBy_alloc w2 _ (some g)).trans g10
          have HO10 := Lib.hid (ho4.grown g10' hne)
          have cc := HO10.out.cell (show t < k by omega)
          have fr := HO10.out.frozen t
          have tn : (t : Int) < (k : Int) := t1
          have HF : Hid (ZPol g w k (.returned (.slice (some ⟨g2, 0, none⟩) k cap2)) (w10.setCell ⟨g2, t, none⟩ (.int .i64 y))) := Lib.hid (zput5 (Nat.le_refl _) hne hg2 ho4 hb2 g10' c10 hB)
          clear ho4 g10' g10 hb2
          go_wp2
          go_ret
          exact HF.out
/-- A row of bytes that was drawn. -/
def BK (g : Nat) (w W : World) (g2 n cap : Nat) : Prop := (∃ F : Nat → Int, (∀ j, 0 ≤ F j ∧ F j < 256) ∧ OwnB W g2 n cap F) ∧ g2 ≠ g ∧ w.heap.size ≤ g2 ∧ Cur g W ∧ w.grownBy W (some g)
theorem OwnB.grown {w w' : World} {g g2 n cap : Nat} {F : Nat → Int} (h : OwnB w g2 n cap F) (hg : w.grownBy w' (some g)) (hne : g2 ≠ g) : OwnB w' g2 n cap F := by
  have hlt := h.lt
  obtain ⟨V, h1, h2, h3⟩ := h
  exact ⟨V, World.rowIs.of_block h1 (hg.block g2 hlt (fun e => hne (by injection e))), h2, h3⟩
theorem BK.grown {g : Nat} {w W W' : World} {g2 n cap : Nat} (h : BK g w W g2 n cap) (hg : W.grownBy W' (some g)) (hc : Cur g W') : BK g w W' g2 n cap := by
  obtain ⟨⟨F, hF, ho⟩, hne, h2, _, hw⟩ := h
  exact ⟨⟨F, hF, ho.grown hg hne⟩, hne, h2, hc, hw.trans hg⟩
theorem BK.put {g : Nat} {w W : World} {g2 n cap k : Nat} {y : Int} (h : BK g w W g2 n cap) (hB : g < w.heap.size) (y0 : 0 ≤ y) (y1 : y < 256) : BK g w (W.setCell ⟨g2, k, none⟩ (.int .u8 y)) g2 n cap := by
  obtain ⟨⟨F, hF, ho⟩, hne, h2, hc, hw⟩ := h
  have hset : W.grownBy (W.setCell ⟨g2, k, none⟩ (.int .u8 y)) (some g2) := grown_set (World.grownBy.refl _ _) _ _
  refine ⟨⟨upd F k y, fun j => ?_, ho.set⟩, hne, h2, hc.other hset (fun r hr => by injection hr with hr; omega), grown_new hw hset (fun r hr => by injection hr with hr; omega)⟩
  unfold upd
  split
  · exact ⟨y0, y1⟩
  · exact hF j
theorem BK.text {g : Nat} {w W : World} {g2 n cap : Nat} (h : BK g w W g2 n cap) : ∃ s : ByteArray, s.size = n ∧ ∀ c2 : Nat, (convert 27 9 (.slice (some ⟨g2, 0, none⟩) n c2)).run Tryd.prog W = .ok (.string s) W := by
  obtain ⟨⟨F, hF, ho⟩, _⟩ := h
  refine ⟨⟨((List.range n).map fun j => UInt8.ofNat (F j).toNat).toArray⟩, by show (List.map _ _).toArray.size = n; simp, fun c2 => ?_⟩
  have := run_convert_bytes_back (P := Tryd.prog) W 27 9 5 ⟨g2, 0, none⟩ c2 ((List.range n).map fun j => UInt8.ofNat (F j).toNat) Tryd.underlying27 Tryd.underlying5 Tryd.underlying9 (fun j hj => by
    have hj2 : j < n := by simpa using hj
    rw [add_at, Nat.zero_add, ho.cell hj2]
    have := hF j
    congr 2
    simp
    omega)
  rwa [List.length_map, List.length_range] at this
def DrawS (g : Nat) (w : World) (n : Nat) (e : Ending) (w' : World) : Prop := ∃ s : ByteArray, e = .returned (.string s) ∧ s.size = n ∧ w.grownBy w' (some g) ∧ Cur g w'
/-- The state of the loop that draws a text. -/
def ZB (g : Nat) (w wr : World) (v : Value) (k : Nat) : Prop := (∃ F : Nat → Int, (∀ j, 0 ≤ F j ∧ F j < 256) ∧ wr.ownsRow w.heap.size 5 1 v k (xsB F k)) ∧ Cur g wr ∧ w.grownBy wr (some g) ∧ w.heap.size ≤ wr.heap.size
theorem zbs_more (F : Nat → Int) (k : Nat) (x : Int) : xsB F k ++ [.int .u8 x] = xsB (fun j => if j < k then F j else x) (k + 1) := by
  rw [← xsB_succ]
  have e : xsB (fun j => if j < k then F j else x) k = xsB F k := List.map_congr_left fun j hj => by
    have : j < k := by simpa using hj
    simp [this]
  rw [e]
  simp
theorem zownB_ne {wr : World} {B g : Nat} {v : Value} {k : Nat} {xs : List Value} (hB : g < B) (h : wr.ownsRow B 5 1 v k xs) : v.ownBlock = none ∨ v.ownBlock ≠ some g := by
  refine .inr fun e => ?_
  have := own_ge h g e
  omega
theorem zb_step {g : Nat} {w w1 w2 : World} {v v' : Value} {k : Nat} {x : Int} {F : Nat → Int} {o : Obj} (hB : g < w.heap.size) (g1 : w.grownBy w1 (some g)) (c1 : Cur g w1) (hown1 : w1.ownsRow w.heap.size 5 1 v k (xsB F k)) (hF : ∀ j, 0 ≤ F j ∧ F j < 256) (x0 : 0 ≤ x) (x1 : x < 256)
    (hown' : w2.ownsRow w.heap.size 5 1 v' (k + 1) (xsB F k ++ [.int .u8 x])) (hgrow : (w1.alloc o).grownBy w2 v.ownBlock) : ZB g w w2 v' (k + 1) := by
  have hge := own_ge hown1
  have hg := grown_new (g1.trans (World.grownBy_alloc w1 o (some g))) hgrow hge
  exact ⟨⟨_, fun j => by show 0 ≤ (if j < k then F j else x) ∧ (if j < k then F j else x) < 256; split; exact hF j; exact ⟨x0, x1⟩, by rw [zbs_more] at hown'; exact hown'⟩, (c1.alloc o).other hgrow (fun r hr => by have := hge r hr; omega), hg, hg.size⟩
set_option maxRecDepth 100000 in
set_option maxHeartbeats 3200000 in
theorem drawText_c (g n : Nat) (w : World) (hc : Cur g w) (n1 : 1 ≤ n) (hn : n ≤ 1000) : Calls Tryd.prog 66 #[.pointer (some ⟨g, 0, none⟩), .int .i64 n] w (DrawS g w n) := by
  obtain ⟨i0, hi, hz0, hz1, hz2⟩ := info_parts info5
  have HI := Lib.hid hi
  have HZ0 := Lib.hid hz0
  have HZ1 := Lib.hid hz1
  have HZ2 := Lib.hid hz2
  clear hi hz0 hz1 hz2
  have hB : g < w.heap.size := hc.lt
  go_enter Tryd.func66, Tryd.ntmps66
  go_upto_block 0 with fail
  go_cut [5, 6] from 8 (fun v _ wd => ∃ g2 cap2, v = .slice (some ⟨g2, 0, none⟩) n cap2 ∧ BK g w wd g2 n cap2)
  case first =>
    go_wp2_with fail
    go_loopw [5, 6] (fun v i wr => ∃ k : Nat, i = .int .i64 k ∧ k ≤ n ∧ ZB g w wr v k) (fun _ i _ => n - (intOf i).toNat)
    case atStart => exact ⟨0, rfl, by omega, ⟨fun _ => 0, fun _ => by show (0 : Int) ≤ 0 ∧ (0 : Int) < 256; omega, ownB_empty w (fun _ => 0)⟩, hc.alloc _, World.grownBy_alloc _ _ _, by simp⟩
    case round =>
      obtain ⟨k, rfl, hk, ⟨F, hF, hown⟩, hcur, hbel, hsz⟩ := hrel
      have HF := Lib.hid hF
      clear hF
      by_cases hlt : k < n
      · have hd : decide ((k : Int) < n) = true := decide_eq_true (by omega)
        go_wp2_with fail
        refine (below_c g 10 wr hcur (by omega) (by omega)).mono ?_
        rintro e w1 ⟨x1, ⟨p1, q1⟩, rfl, g1, c1⟩
        go_wp2_with fail
        refine (below_c g 10 w1 c1 (by omega) (by omega)).mono ?_
        rintro e w2 ⟨x2, ⟨p2, q2⟩, rfl, g2, c2⟩
        have g12 := g1.trans g2
        clear g1 g2 c1 hcur
        go_wp2_with fail
        refine (pick_c (fun x => 0 ≤ x ∧ x ≤ 9) g w2.heap.size 4 4 _ (c2.alloc _) (by omega) (by omega) (ints_alloc (fun x => 0 ≤ x ∧ x ≤ 9) c2.lt #[.int .i64 0, .int .i64 9, .int .i64 x1, .int .i64 x2] 3 (fun j hj => by
          have h3 : j = 0 ∨ j = 1 ∨ j = 2 ∨ j = 3 := by have : j < 4 := hj; omega
          rcases h3 with rfl | rfl | rfl | rfl <;> exact ⟨_, rfl, by omega⟩))).mono ?_
        rintro e w9 ⟨x9, ⟨p9, q9⟩, rfl, g4, c9⟩
        have g9 := g12.trans ((World.grownBy_alloc w2 _ (some g)).trans g4)
        have hown9 := hown.kept g9 (zownB_ne hB hown)
        have hb9 := hbel.trans g9
        have hs9 : w.heap.size ≤ w9.heap.size := Nat.le_trans hsz g9.size
        clear hown hbel g9 g4 g12 c2
        go_wp2_with (at_builtin; refine wpList_append_own _ rfl _ _ 27 rfl w.heap.size 5 i0 (.int .u8 0) 1 1 Tryd.underlying27 HI.out HZ0.out HZ1.out HZ2.out rfl (by decide) _ _ _ rfl (hown9.alloc _) ⟨w9.heap.size, 0, none⟩ 1 1 [.int .u8 (48 + x9)] rfl rfl ?c1 ?c2 ?c3 ?c4 ?c5 ?_)
        case c1 => exact cell_one_new _ _ _
        case c2 => intro u hu; simp at hu; subst hu; rfl
        case c3 => unfold maxLen; omega
        case c4 => omega
        case c5 => simp; omega
        intro v' w10 hown' hgrow _
        have hst := zb_step hB hb9 c9 hown9 HF.out (by omega) (by omega) hown' hgrow
        clear hgrow hown' hown9 c9 hb9
        go_wp2
        go_roundw
        case rel => exact ⟨k + 1, by go_num, by omega, hst⟩
        case measure => simp [intOf]; omega
      · have hd : decide ((k : Int) < n) = false := decide_eq_false (by omega)
        obtain rfl : k = n := by omega
        obtain ⟨g2, cap2, rfl, hg2, ho2⟩ := OwnB.of_owns hown (by omega)
        have HB2 : Hid (BK g w wr g2 k cap2) := Lib.hid ⟨⟨F, HF.out, ho2⟩, by omega, hg2, hcur, hbel⟩
        clear hown ho2 hbel
        go_wp2
        go_meet
        case rel => exact ⟨g2, cap2, rfl, HB2.out⟩
  case rest =>
    obtain ⟨g2, cap2, rfl, hBK⟩ := hcut
    have HBK := Lib.hid hBK
    clear hBK hc
    have hn0 : (0 : Int) < n := by omega
    have dn0 : decide ((0 : Int) < n) = true := decide_eq_true hn0
    go_upto_region 6 with fail
    go_cut [37] from 25 (fun s wd => ∃ b6 : Bool, s = .bool b6 ∧ BK g w wd g2 n cap2)
    case first =>
      by_cases h1 : 1 < n
      · have d1 : decide ((1 : Int) < n) = true := decide_eq_true (by omega)
        obtain ⟨⟨F, hF, ho⟩, _, _, hcu, _⟩ := HBK.out
        have c0 := ho.cell (show 0 < n by omega)
        clear ho
        by_cases h0 : F 0 = 48
        · have e0 : (F 0 == 48) = true := by rw [h0]; rfl
          rw [h0] at c0
          clear h0 e0
          go_wp2_with fail
          refine (once_c g 12 wc hcu (by omega) (by omega)).mono ?_
          rintro e w1 ⟨b1, rfl, g1, c1⟩
          have HB1 := Lib.hid (HBK.out.grown g1 c1)
          clear g1 hcu c0
          go_wp2
          go_meet
          case rel => exact ⟨_, rfl, HB1.out⟩
        · have e0 : (F 0 == 48) = false := by rw [beq_eq_false_iff_ne]; exact h0
          clear h0
          go_wp2
          go_meet
          case rel => exact ⟨_, rfl, HBK.out⟩
      · have d1 : decide ((1 : Int) < n) = false := decide_eq_false (by omega)
        go_wp2
        go_meet
        case rel => exact ⟨_, rfl, HBK.out⟩
    case rest =>
      clear HBK
      obtain ⟨b6, rfl, hBK⟩ := hcut
      have HBK := Lib.hid hBK
      clear hBK
      go_upto_if 37 with fail
      go_cut [6] from 25 (fun _ wd => BK g w wd g2 n cap2)
      case first =>
        cases b6
        · go_wp2
          go_meet
          case rel => exact HBK.out
        · obtain ⟨⟨F, hF, ho⟩, _, _, hcu, _⟩ := HBK.out
          have c0 := ho.cell (show 0 < n by omega)
          have f0 := ho.frozen 0
          have HB1 := Lib.hid (HBK.out.put (k := 0) (y := 55) hB (by omega) (by omega))
          clear ho
          go_wp2
          go_meet
          case rel => exact HB1.out
      case rest =>
        clear HBK
        have HBK := Lib.hid hcut
        have hcu := hcut.2.2.2.1
        clear hcut
        go_wp2_with fail
        refine (once_c g 25 _ hcu (by omega) (by omega)).mono ?_
        rintro e w1 ⟨b1, rfl, g1, c1⟩
        have HB1 := Lib.hid (HBK.out.grown g1 c1)
        clear g1 hcu HBK
        cases b1
        · obtain ⟨s, hs, hcv⟩ := HB1.out.text
          have hcv2 := hcv cap2
          have HR : Hid (w.grownBy w1 (some g) ∧ Cur g w1) := Lib.hid ⟨HB1.out.2.2.2.2, HB1.out.2.2.2.1⟩
          have HSS := Lib.hid hs
          clear HB1 hs hcv
          go_wp2
          go_ret
          exact ⟨s, rfl, HSS.out, HR.out⟩
        · go_wp2_with fail
          refine (below_c g n w1 c1 (by omega) (by omega)).mono ?_
          rintro e w2 ⟨t, ⟨t0, t1⟩, rfl, g4, c2⟩
          obtain ⟨t, rfl⟩ := Int.eq_ofNat_of_zero_le t0
          have HB2 := Lib.hid (HB1.out.grown g4 c2)
          clear HB1 g4 c1
          go_wp2_with fail
          refine (pick_c (fun x => 0 ≤ x ∧ x < 256) g w2.heap.size 5 5 _ (c2.alloc _) (by omega) (by omega) (ints_alloc (fun x => 0 ≤ x ∧ x < 256) c2.lt #[.int .i64 32, .int .i64 45, .int .i64 47, .int .i64 58, .int .i64 97] 3 (fun j hj => by
            have h3 : j = 0 ∨ j = 1 ∨ j = 2 ∨ j = 3 ∨ j = 4 := by have : j < 5 := hj; omega
            rcases h3 with rfl | rfl | rfl | rfl | rfl <;> exact ⟨_, rfl, by omega⟩))).mono ?_
          rintro e w10 ⟨y, ⟨y0, y1⟩, rfl, g10, c10⟩
          have HB3 := Lib.hid (HB2.out.grown ((World.grownBy_alloc w2 _ (some g)).trans g10) c10)
          have HB4 := Lib.hid (HB3.out.put (k := t) (y := y) hB y0 y1)
          obtain ⟨s, hs, hcv⟩ := HB4.out.text
          have hcv2 := hcv cap2
          obtain ⟨⟨F, hF, ho⟩, _⟩ := HB3.out
          have cc := ho.cell (show t < n by omega)
          have fr := ho.frozen t
          have tn : (t : Int) < (n : Int) := t1
          have HR : Hid (w.grownBy (w10.setCell ⟨g2, t, none⟩ (.int .u8 y)) (some g) ∧ Cur g (w10.setCell ⟨g2, t, none⟩ (.int .u8 y))) := Lib.hid ⟨HB4.out.2.2.2.2, HB4.out.2.2.2.1⟩
          have HSS := Lib.hid hs
          clear HB2 HB3 HB4 hs hcv ho g10
          go_wp2
          go_ret
          exact ⟨s, rfl, HSS.out, HR.out⟩
end Go.Proofs.YtaapmpjkcddababDoor
namespace Go.Proofs.YtaapmpjkcddababDoor
open Go.RowKit
def Two5 (w : World) (e : Ending) (w' : World) : Prop := ∃ (a : Option Addr) (l : List Int) (cap : Nat) (a2 : Option Addr) (m : List Int) (cap2 : Nat),
  e = .returned (.tuple #[.slice a l.length cap, .slice a2 m.length cap2]) ∧ l.length ≤ 1000 ∧ m.length ≤ 1000 ∧ Src w' a l.length (lf l) ∧ Src w' a2 m.length (lf m) ∧ Below w.heap.size w w'
set_option maxRecDepth 100000 in
set_option maxHeartbeats 1600000 in
theorem drawConv_c (a : Option Addr) (len cap : Nat) (w : World) (hl : len ≤ 1048576) (hc : Code w a len) : Calls Tryd.prog 19 #[.slice a len cap] w (Two5 w) := by
  go_enter Tryd.func19, Tryd.ntmps19
  go_wp2_with fail
  refine (new_c a len cap w hc).mono ?_
  rintro e w1 ⟨rfl, b1, c1⟩
  go_wp2_with fail
  refine (once_c w.heap.size 10 w1 c1 (by omega) (by omega)).mono ?_
  rintro e w2 ⟨b2, rfl, g2, c2⟩
  have b2w := below_of_grown b1 g2
  clear b1 g2 c1 hc
  cases b2
  · go_wp2_with fail
    refine (sizeM_c a len cap 60 w2 hl (by omega) (by omega)).mono ?_
    rintro e w' ⟨r1, rfl, r10, r11, rfl⟩
    go_wp2_with fail
    refine (below_c w.heap.size r1 w2 c2 (by omega) (by omega)).mono ?_
    rintro e w3 ⟨x, ⟨x0, x1⟩, rfl, g3, c3⟩
    obtain ⟨x, rfl⟩ := Int.eq_ofNat_of_zero_le x0
    have b3 := below_of_grown b2w g3
    clear b2w g3 c2
    go_wp2_with fail
    refine (drawTerms_c w.heap.size x w3 c3 (by omega)).mono ?_
    rintro e w4 ⟨l, a4, cap4, rfl, hl4, _, s4, c4, g4⟩
    have b4 := below_of_grown b3 g4
    have HS4 := Lib.hid s4
    clear b3 g4 c3 s4
    go_wp2_with fail
    refine (sizeM_c a len cap 60 w4 hl (by omega) (by omega)).mono ?_
    rintro e w' ⟨r2, rfl, r20, r21, rfl⟩
    go_wp2_with fail
    refine (below_c w.heap.size r2 w4 c4 (by omega) (by omega)).mono ?_
    rintro e w5 ⟨y, ⟨y0, y1⟩, rfl, g5, c5⟩
    obtain ⟨y, rfl⟩ := Int.eq_ofNat_of_zero_le y0
    have b5 := below_of_grown b4 g5
    have HS5 := Lib.hid (HS4.out.grown g5)
    clear b4 g5 c4 HS4
    go_wp2_with fail
    refine (drawTerms_c w.heap.size y w5 c5 (by omega)).mono ?_
    rintro e w6 ⟨m, a6, cap6, rfl, hl6, _, s6, c6, g6⟩
    have b6 := below_of_grown b5 g6
    have HS6 := Lib.hid (HS5.out.grown g6)
    have HM6 := Lib.hid s6
    clear b5 g6 c5 HS5 s6
    go_wp2
    go_ret2
    exact ⟨a4, l, cap4, a6, m, cap6, rfl, by omega, by omega, HS6.out.src, HM6.out.src, b6⟩
  · go_wp2_with fail
    refine (below_c w.heap.size 4 w2 c2 (by omega) (by omega)).mono ?_
    rintro e w3 ⟨x, ⟨x0, x1⟩, rfl, g3, c3⟩
    obtain ⟨x, rfl⟩ := Int.eq_ofNat_of_zero_le x0
    have b3 := below_of_grown b2w g3
    have HE : Hid ((198 : Int) + x = ((198 + x : Nat) : Int)) := Lib.hid (by omega)
    clear b2w g3 c2
    go_wp2_with fail
    rw [HE.out]
    refine (drawTerms_c w.heap.size (198 + x) w3 c3 (by omega)).mono ?_
    rintro e w4 ⟨l, a4, cap4, rfl, hl4, _, s4, c4, g4⟩
    have b4 := below_of_grown b3 g4
    have HS4 := Lib.hid s4
    clear b3 g4 c3 s4
    go_wp2_with fail
    refine (drawTerms_c w.heap.size 200 w4 c4 (by omega)).mono ?_
    rintro e w6 ⟨m, a6, cap6, rfl, hl6, _, s6, c6, g6⟩
    have b6 := below_of_grown b4 g6
    have HS6 := Lib.hid (HS4.out.grown g6)
    have HM6 := Lib.hid s6
    clear b4 g6 c4 HS4 s6
    go_wp2
    go_ret2
    exact ⟨a4, l, cap4, a6, m, cap6, rfl, by omega, by omega, HS6.out.src, HM6.out.src, b6⟩
def TwoT (w : World) (e : Ending) (w' : World) : Prop := ∃ s t : ByteArray, e = .returned (.tuple #[.string s, .string t]) ∧ s.size ≤ 1000 ∧ t.size ≤ 1000 ∧ Below w.heap.size w w'
set_option maxRecDepth 100000 in
set_option maxHeartbeats 1600000 in
theorem drawTwoT_c (a : Option Addr) (len cap : Nat) (w : World) (hl : len ≤ 1048576) (hc : Code w a len) : Calls Tryd.prog 59 #[.slice a len cap] w (TwoT w) := by
  go_enter Tryd.func59, Tryd.ntmps59
  go_wp2_with fail
  refine (new_c a len cap w hc).mono ?_
  rintro e w1 ⟨rfl, b1, c1⟩
  go_wp2_with fail
  refine (once_c w.heap.size 10 w1 c1 (by omega) (by omega)).mono ?_
  rintro e w2 ⟨b2, rfl, g2, c2⟩
  have b2w := below_of_grown b1 g2
  clear b1 g2 c1 hc
  cases b2
  · go_wp2_with fail
    refine (sizeM_c a len cap 50 w2 hl (by omega) (by omega)).mono ?_
    rintro e w' ⟨r1, rfl, r10, r11, rfl⟩
    go_wp2_with fail
    refine (below_c w.heap.size r1 w2 c2 (by omega) (by omega)).mono ?_
    rintro e w3 ⟨x, ⟨x0, x1⟩, rfl, g3, c3⟩
    obtain ⟨x, rfl⟩ := Int.eq_ofNat_of_zero_le x0
    have b3 := below_of_grown b2w g3
    have HE : Hid ((1 : Int) + x = ((1 + x : Nat) : Int)) := Lib.hid (by omega)
    clear b2w g3 c2
    go_wp2_with fail
    rw [HE.out]
    refine (drawText_c w.heap.size (1 + x) w3 c3 (by omega) (by omega)).mono ?_
    rintro e w4 ⟨s, rfl, hs, g4, c4⟩
    have b4 := below_of_grown b3 g4
    clear b3 g4 c3 HE
    go_wp2_with fail
    refine (sizeM_c a len cap 50 w4 hl (by omega) (by omega)).mono ?_
    rintro e w' ⟨r2, rfl, r20, r21, rfl⟩
    go_wp2_with fail
    refine (below_c w.heap.size r2 w4 c4 (by omega) (by omega)).mono ?_
    rintro e w5 ⟨y, ⟨y0, y1⟩, rfl, g5, c5⟩
    obtain ⟨y, rfl⟩ := Int.eq_ofNat_of_zero_le y0
    have b5 := below_of_grown b4 g5
    have HE : Hid ((1 : Int) + y = ((1 + y : Nat) : Int)) := Lib.hid (by omega)
    clear b4 g5 c4
    go_wp2_with fail
    rw [HE.out]
    refine (drawText_c w.heap.size (1 + y) w5 c5 (by omega) (by omega)).mono ?_
    rintro e w6 ⟨t, rfl, ht, g6, c6⟩
    have b6 := below_of_grown b5 g6
    clear b5 g6 c5 HE
    go_wp2_with fail
    refine (once_c w.heap.size 6 w6 c6 (by omega) (by omega)).mono ?_
    rintro e w7 ⟨b7, rfl, g7, c7⟩
    have b7w := below_of_grown b6 g7
    have HSZ : Hid (s.size ≤ 1000 ∧ t.size ≤ 1000) := Lib.hid (by omega)
    clear b6 g7 c6 hs ht
    cases b7
    · go_wp2
      go_ret2
      exact ⟨s, t, rfl, HSZ.out.1, HSZ.out.2, b7w⟩
    · go_wp2
      go_ret2
      exact ⟨s, s, rfl, HSZ.out.1, HSZ.out.1, b7w⟩
  · go_wp2_with fail
    refine (drawText_c w.heap.size 300 w2 c2 (by omega) (by omega)).mono ?_
    rintro e w3 ⟨s, rfl, hs, g3, c3⟩
    have b3 := below_of_grown b2w g3
    clear b2w g3 c2
    go_wp2_with fail
    refine (below_c w.heap.size 4 w3 c3 (by omega) (by omega)).mono ?_
    rintro e w4 ⟨x, ⟨x0, x1⟩, rfl, g4, c4⟩
    obtain ⟨x, rfl⟩ := Int.eq_ofNat_of_zero_le x0
    have b4 := below_of_grown b3 g4
    have HE : Hid ((298 : Int) + x = ((298 + x : Nat) : Int)) := Lib.hid (by omega)
    clear b3 g4 c3
    go_wp2_with fail
    rw [HE.out]
    refine (drawText_c w.heap.size (298 + x) w4 c4 (by omega) (by omega)).mono ?_
    rintro e w5 ⟨t, rfl, ht, g5, c5⟩
    have b5 := below_of_grown b4 g5
    have HSZ : Hid (s.size ≤ 1000 ∧ t.size ≤ 1000) := Lib.hid (by omega)
    clear b4 g5 c4 HE hs ht
    go_wp2
    go_ret2
    exact ⟨s, t, rfl, HSZ.out.1, HSZ.out.2, b5⟩
theorem drawMulText_c (a : Option Addr) (len cap : Nat) (w : World) (hl : len ≤ 1048576) (hc : Code w a len) : Calls Tryd.prog 26 #[.slice a len cap] w (TwoT w) := by
  go_enter Tryd.func26, Tryd.ntmps26
  go_wp2_with fail
  refine (drawTwoT_c a len cap w hl hc).mono ?_
  rintro e w1 ⟨s, t, rfl, h1, h2, b1⟩
  go_wp2
  go_ret2
  exact ⟨s, t, rfl, h1, h2, b1⟩
theorem pickText_c (M g lb len cap : Nat) (w : World) (hc : Cur g w) (l0 : 0 < len) (l1 : len ≤ 100) (hne : lb ≠ g) (hl : ∀ j : Nat, j < len → ∃ s : ByteArray, w.cell? ⟨lb, j, none⟩ = some (.string s) ∧ s.size ≤ M) :
    Calls Tryd.prog 67 #[.pointer (some ⟨g, 0, none⟩), .slice (some ⟨lb, 0, none⟩) len cap] w fun e w' => ∃ s : ByteArray, e = .returned (.string s) ∧ s.size ≤ M ∧ w.grownBy w' (some g) ∧ Cur g w' := by
  go_enter Tryd.func67, Tryd.ntmps67
  go_wp2_with fail
  refine (below_c g len w hc (by omega) (by omega)).mono ?_
  rintro e w1 ⟨x, ⟨x0, x1⟩, rfl, g1, c1⟩
  obtain ⟨s, hn, hq⟩ := hl x.toNat (by omega)
  have HQ := Lib.hid hq
  clear hq
  have hn1 : w1.cell? ⟨lb, x.toNat, none⟩ = some (.string s) := g1.cell hn (fun e => by injection e with e; exact hne e)
  go_wp2
  go_ret
  exact ⟨_, rfl, HQ.out, g1, c1⟩
theorem five_texts (w : World) (t : TypeId) : ∀ j : Nat, j < 5 → ∃ s : ByteArray, (w.alloc (.cells #[.string ⟨#[48]⟩, .string ⟨#[49]⟩, .string ⟨#[50]⟩, .string ⟨#[49, 48]⟩, .string ⟨#[57, 57]⟩] t)).cell? ⟨w.heap.size, j, none⟩ = some (.string s) ∧ s.size ≤ 2 := fun j hj => by
  have h3 : j = 0 ∨ j = 1 ∨ j = 2 ∨ j = 3 ∨ j = 4 := by omega
  rcases h3 with rfl | rfl | rfl | rfl | rfl <;> exact ⟨_, by unfold World.cell? World.alloc; simp; rfl, by decide⟩
def TextI (w : World) (e : Ending) (w' : World) : Prop := ∃ (s : ByteArray) (x : Int), e = .returned (.tuple #[.string s, .int .i64 x]) ∧ s.size ≤ 1000 ∧ Below w.heap.size w w'
set_option maxRecDepth 100000 in
set_option maxHeartbeats 1600000 in
theorem drawPow_c (a : Option Addr) (len cap : Nat) (w : World) (hl : len ≤ 1048576) (hc : Code w a len) : Calls Tryd.prog 35 #[.slice a len cap] w (TextI w) := by
  have HPK : Hid (∀ (s : ByteArray) (w5 : World), s.size ≤ 1000 → Below w.heap.size w w5 → Cur w.heap.size w5 → ∀ x : Int, Calls Tryd.prog 43 #[.pointer (some ⟨w.heap.size, 0, none⟩), .slice (some ⟨w5.heap.size, 0, none⟩) 12 12] (w5.alloc (.cells #[.int .i64 0, .int .i64 1, .int .i64 2, .int .i64 3, .int .i64 x, .int .i64 299, .int .i64 300, .int .i64 996, .int .i64 997, .int .i64 1000, .int .i64 1001, .int .i64 (-1)] 3)) fun e w' => ∃ y : Int, e = .returned (.int .i64 y) ∧ Below w.heap.size w w') := Lib.hid fun s w5 _ hb hc5 x => (pick_c (fun _ => True) w.heap.size w5.heap.size 12 12 _ (hc5.alloc _) (by omega) (by omega) (ints_alloc (fun _ => True) hc5.lt #[.int .i64 0, .int .i64 1, .int .i64 2, .int .i64 3, .int .i64 x, .int .i64 299, .int .i64 300, .int .i64 996, .int .i64 997, .int .i64 1000, .int .i64 1001, .int .i64 (-1)] 3 (fun j hj => by
      have h3 : j = 0 ∨ j = 1 ∨ j = 2 ∨ j = 3 ∨ j = 4 ∨ j = 5 ∨ j = 6 ∨ j = 7 ∨ j = 8 ∨ j = 9 ∨ j = 10 ∨ j = 11 := by have : j < 12 := hj; omega
      rcases h3 with rfl | rfl | rfl | rfl | rfl | rfl | rfl | rfl | rfl | rfl | rfl | rfl <;> exact ⟨_, rfl, trivial⟩))).mono fun e w' h => by
        obtain ⟨y, _, h1, h2, h3⟩ := h
        exact ⟨y, h1, below_of_grown hb ((World.grownBy_alloc w5 _ (some w.heap.size)).trans h2)⟩
  go_enter Tryd.func35, Tryd.ntmps35
  go_wp2_with fail
  refine (new_c a len cap w hc).mono ?_
  rintro e w1 ⟨rfl, b1, c1⟩
  go_wp2_with fail
  refine (sizeM_c a len cap 30 w1 hl (by omega) (by omega)).mono ?_
  rintro e w' ⟨r1, rfl, r10, r11, rfl⟩
  go_wp2_with fail
  refine (below_c w.heap.size r1 w1 c1 (by omega) (by omega)).mono ?_
  rintro e w2 ⟨x, ⟨x0, x1⟩, rfl, g2, c2⟩
  obtain ⟨x, rfl⟩ := Int.eq_ofNat_of_zero_le x0
  have b2 := below_of_grown b1 g2
  have HE : Hid ((1 : Int) + x = ((1 + x : Nat) : Int)) := Lib.hid (by omega)
  clear b1 g2 c1 hc
  go_wp2_with fail
  rw [HE.out]
  refine (drawText_c w.heap.size (1 + x) w2 c2 (by omega) (by omega)).mono ?_
  rintro e w3 ⟨s, rfl, hs, g3, c3⟩
  have b3 := below_of_grown b2 g3
  have hsz : s.size ≤ 1000 := by omega
  clear b2 g3 c2 HE hs
  go_wp2_with fail
  refine (once_c w.heap.size 3 w3 c3 (by omega) (by omega)).mono ?_
  rintro e w4 ⟨b4, rfl, g4, c4⟩
  have b4w := below_of_grown b3 g4
  clear b3 g4 c3
  cases b4
  · go_wp2_with fail
    refine (below_c w.heap.size 30 w4 c4 (by omega) (by omega)).mono ?_
    rintro e w5 ⟨y, ⟨y0, y1⟩, rfl, g5, c5⟩
    have b5 := below_of_grown b4w g5
    clear b4w g5 c4
    go_wp2_with fail
    refine (HPK.out s w5 hsz b5 c5 y).mono ?_
    rintro e w6 ⟨z, rfl, b6⟩
    clear b5 c5
    go_wp2
    go_ret2
    exact ⟨s, z, rfl, hsz, b6⟩
  · go_wp2_with fail
    refine (pickText_c 2 w.heap.size w4.heap.size 5 5 _ (c4.alloc _) (by omega) (by omega) (by have := c4.lt; omega) (five_texts w4 9)).mono ?_
    rintro e w5 ⟨t, rfl, ht, g5, c5⟩
    have b5 := below_of_grown b4w ((World.grownBy_alloc w4 _ (some w.heap.size)).trans g5)
    clear b4w g5 c4
    go_wp2_with fail
    refine (below_c w.heap.size 30 w5 c5 (by omega) (by omega)).mono ?_
    rintro e w6 ⟨y, ⟨y0, y1⟩, rfl, g6, c6⟩
    have b6 := below_of_grown b5 g6
    clear b5 g6 c5
    go_wp2_with fail
    refine (HPK.out t w6 (by omega) b6 c6 y).mono ?_
    rintro e w7 ⟨z, rfl, b7⟩
    clear b6 c6
    go_wp2
    go_ret2
    exact ⟨t, z, rfl, by omega, b7⟩
end Go.Proofs.YtaapmpjkcddababDoor
namespace Go.Proofs.YtaapmpjkcddababDoor
open Go.RowKit
set_option maxHeartbeats 800000 in
theorem areTerms_some (b off n cap : Nat) (l : List Int) (w : World) (hl : l.length = n) (hn : n ≤ 200) (hc : ∀ j, j < n → w.cell? ⟨b, off + j, none⟩ = some (.int .i64 (lf l j))) :
    Calls Tryd.prog 53 #[.slice (some ⟨b, off, none⟩) n cap] w (SameB w (mTerms l)) := by
  have HC := Lib.hid hc
  have hd : decide ((200 : Int) < n) = false := decide_eq_false (by omega)
  have HY : Hid ((∀ j, j < n → -1000000 ≤ lf l j ∧ lf l j ≤ 1000000) → mTerms l = true) := Lib.hid fun h => terms_iff.2 ⟨by omega, by rw [hl]; exact h⟩
  have HN : Hid (∀ k, k < n → ¬ (-1000000 ≤ lf l k ∧ lf l k ≤ 1000000) → mTerms l = false) := Lib.hid fun k hk h => terms_not.2 fun ht => h (ht.2 k (by omega))
  clear hc hl
  generalize lf l = F at *
  generalize mTerms l = R at *
  go_enter Tryd.func53, Tryd.ntmps53
  go_wp2_with fail
  go_loop [4, 10] (fun _ i => ∃ k : Nat, i = .int .i64 k ∧ k ≤ n ∧ Hid (∀ j, j < k → -1000000 ≤ F j ∧ F j ≤ 1000000)) (fun _ i => n - (intOf i).toNat)
  case atStart => exact ⟨0, rfl, Nat.zero_le _, Lib.hid (fun j hj => by omega)⟩
  case round =>
    obtain ⟨k, rfl, hk, HA⟩ := hrel
    by_cases h1 : k < n
    · have hd1 : decide ((k : Int) < n) = true := decide_eq_true (by omega)
      have c1 : w.cell? ⟨b, off + k, none⟩ = some (.int .i64 (F k)) := HC.out k h1
      by_cases h2 : F k < -1000000
      · have HD : decide (F k < -1000000) = true := decide_eq_true h2
        have HR := Lib.hid (HN.out k h1 (by omega))
        clear h2
        go_wp2
        go_ret
        exact ⟨by rw [HR.out]; rfl, rfl⟩
      · have HD : decide (F k < -1000000) = false := decide_eq_false h2
        by_cases h3 : 1000000 < F k
        · have HD2 : decide (1000000 < F k) = true := decide_eq_true h3
          have HR := Lib.hid (HN.out k h1 (by omega))
          clear h2 h3
          go_wp2
          go_ret
          exact ⟨by rw [HR.out]; rfl, rfl⟩
        · have HD2 : decide (1000000 < F k) = false := decide_eq_false h3
          have HA2 : Hid (∀ j, j < k + 1 → -1000000 ≤ F j ∧ F j ≤ 1000000) := Lib.hid (fun j hj => by
            by_cases e : j = k
            · subst e; omega
            · exact HA.out j (by omega))
          clear HA h2 h3
          go_wp2
          go_round
          case rel => exact ⟨k + 1, by go_num, by omega, HA2⟩
          case measure => simp [intOf]; omega
    · have hd1 : decide ((k : Int) < n) = false := decide_eq_false (by omega)
      obtain rfl : k = n := by omega
      have HR := Lib.hid (HY.out HA.out)
      go_wp2
      go_ret
      exact ⟨by rw [HR.out]; rfl, rfl⟩
theorem areTerms_c (a : Option Addr) (l : List Int) (cap : Nat) (w : World) (hn : l.length ≤ 1048576) (hs : Src w a l.length (lf l)) : Calls Tryd.prog 53 #[.slice a l.length cap] w (SameB w (mTerms l)) := by
  by_cases h2 : l.length ≤ 200
  · rcases hs with h | ⟨b, off, rfl, hlt, hc⟩
    · have HR := Lib.hid (terms_iff.2 (⟨h2, fun j hj => by omega⟩ : TermsOk l))
      rw [h]
      clear h h2 hn
      go_enter Tryd.func53, Tryd.ntmps53
      go_wp2_with fail
      refine wp_loop_rounds 1 ?_
      rw [rounds_succ]
      go_wp2
      go_ret
      exact ⟨by rw [HR.out]; rfl, rfl⟩
    · exact areTerms_some b off l.length cap l w rfl h2 hc
  · have HR := Lib.hid (terms_not.2 fun h : TermsOk l => h2 h.1)
    have hd : decide ((200 : Int) < l.length) = true := decide_eq_true (by omega)
    clear hs h2
    go_enter Tryd.func53, Tryd.ntmps53
    go_wp2
    go_ret
    exact ⟨by rw [HR.out]; rfl, rfl⟩
theorem TermsOk.b {l : List Int} (h : TermsOk l) : TermsB l := ⟨by have := h.1; omega, terms_all h⟩
theorem iConvExact (a : Option Addr) (l : List Int) (cap : Nat) (a2 : Option Addr) (m : List Int) (cap2 : Nat) (w : World) (hn : l.length ≤ 1048576) (hn2 : m.length ≤ 1048576) (hs : Src w a l.length (lf l)) (hs2 : Src w a2 m.length (lf m)) (ht : Tab w) :
    Calls Tryd.prog 21 #[.slice a l.length cap, .slice a2 m.length cap2] w (OwnLB w (mConvExact0 l m) (mConvExact1 l m)) := by
  have R1 := areTerms_c a l cap w hn hs
  have R2 := areTerms_c a2 m cap2 w hn2 hs2
  by_cases h1 : TermsOk l
  · rw [terms_iff.2 h1] at R1
    by_cases h2 : TermsOk m
    · rw [terms_iff.2 h2] at R2
      rw [show mConvExact0 l m = ceL l m by unfold mConvExact0; rw [if_pos ⟨h1, h2⟩], show mConvExact1 l m = true by unfold mConvExact1; simp [h1, h2]]
      have R3 := convolve_c a l cap a2 m cap2 w ht h1.b h2.b hs hs2
      clear hs hs2 h1 h2
      go_enter Tryd.func21, Tryd.ntmps21
      go_wp2_with fail
      refine R1.mono ?_
      rintro e w' ⟨rfl, rfl⟩
      go_wp2_with fail
      refine R2.mono ?_
      rintro e w' ⟨rfl, rfl⟩
      go_wp2_with fail
      refine R3.mono ?_
      rintro e w1 ⟨g, rfl, hg, ho, hb⟩
      have HO := Lib.hid ho
      clear ho
      go_wp2
      go_ret2
      exact ⟨_, _, rfl, .inr ⟨g, rfl, rfl, hg, HO.out⟩, hb⟩
    · rw [terms_not.2 h2] at R2
      rw [show mConvExact0 l m = [] by unfold mConvExact0; rw [if_neg fun h => h2 h.2], show mConvExact1 l m = false by unfold mConvExact1; simp [h2]]
      clear hs hs2 h1 h2
      go_enter Tryd.func21, Tryd.ntmps21
      go_wp2_with fail
      refine R1.mono ?_
      rintro e w' ⟨rfl, rfl⟩
      go_wp2_with fail
      refine R2.mono ?_
      rintro e w' ⟨rfl, rfl⟩
      go_wp2
      go_ret2
      exact ⟨none, 0, rfl, .inl ⟨rfl, rfl, rfl⟩, Below.refl _ _⟩
  · rw [terms_not.2 h1] at R1
    rw [show mConvExact0 l m = [] by unfold mConvExact0; rw [if_neg fun h => h1 h.1], show mConvExact1 l m = false by unfold mConvExact1; simp [h1]]
    clear hs hs2 h1 R2
    go_enter Tryd.func21, Tryd.ntmps21
    go_wp2_with fail
    refine R1.mono ?_
    rintro e w' ⟨rfl, rfl⟩
    go_wp2
    go_ret2
    exact ⟨none, 0, rfl, .inl ⟨rfl, rfl, rfl⟩, Below.refl _ _⟩
end Go.Proofs.YtaapmpjkcddababDoor
namespace Go.Proofs.YtaapmpjkcddababDoor
open Go.RowKit
set_option maxHeartbeats 1600000 in
theorem iModText (s : ByteArray) (f : Int) (w : World) (hs : s.size ≤ 1048576) (ht : Tab w) : Calls Tryd.prog 30 #[.string s, .int .i64 f] w (IntP w (mModText s f)) := by
  have R1 := iDigitsOk s w hs
  by_cases h1 : mDigitsOk s = true
  · rw [h1] at R1
    have hd := dig_iff.1 h1
    by_cases hf : 0 ≤ f ∧ f ≤ 8
    · have HM : Hid (mModText s f = RS (numV s) (P f)) := Lib.hid (if_pos ⟨h1, hf⟩)
      have hp := P_bd hf.1 hf.2
      have HST : Hid (∀ k, k < s.size → RS (RS (topV (digF s) s.size k) (P f) * 10 + (bt s k - 48)) (P f) = RS (topV (digF s) s.size (k + 1)) (P f)) := Lib.hid fun k hk => by
        rw [topV, digF_rev hk]
        unfold RS
        exact emod_add_congr (by rw [Int.mul_emod, Int.emod_emod_of_dvd _ (Int.dvd_refl _), ← Int.mul_emod]) rfl
      have HEND : Hid (topV (digF s) s.size s.size = numV s) := Lib.hid (topV_all _ _)
      have HDB : Hid (∀ k, k < s.size → 48 ≤ bt s k ∧ bt s k ≤ 57) := Lib.hid hd.2.1
      have HR1 := Lib.hid R1
      have HRE : Hid (∀ x, Calls Tryd.prog 62 #[.int .i64 f, .int .i64 x] w fun e w' => e = .returned (.int .i64 (RS x (P f))) ∧ w = w') := Lib.hid fun x => reduce_c f x w ht hf.1 hf.2
      have HBX : Hid (∀ x, 0 ≤ RS x (P f) ∧ RS x (P f) < P f) := Lib.hid fun x => RS_bd (by omega)
      have hs3 := hd.1.2
      clear R1 h1 hd
      go_enter Tryd.func30, Tryd.ntmps30
      go_wp2_with fail
      refine HR1.out.mono ?_
      rintro e w' ⟨rfl, rfl⟩
      go_wp2_with fail
      refine (known_yes f w hf.1 hf.2).mono ?_
      rintro e w' ⟨rfl, rfl⟩
      go_wp2_with fail
      go_loop [6, 7, 19] (fun u _ i => ∃ k : Nat, i = .int .i64 k ∧ k ≤ s.size ∧ u = .int .i64 (RS (topV (digF s) s.size k) (P f))) (fun _ _ i => s.size - (intOf i).toNat)
      case atStart => exact ⟨0, rfl, Nat.zero_le _, by simp [topV, RS]⟩
      case round =>
        obtain ⟨k, rfl, hk, rfl⟩ := hrel
        by_cases h2 : k < s.size
        · have hd1 : decide ((k : Int) < s.size) = true := decide_eq_true (by omega)
          have hbt := bt_get h2
          have hbb := HDB.out k h2
          have HS := Lib.hid (HST.out k h2)
          have hx := HBX.out (topV (digF s) s.size k)
          rw [hbt] at HS hbb
          clear hbt
          have i1 : (0 : Int) ≤ (k : Int) ∧ (k : Int) < s.size := by omega
          have q0 : IntKind.u8.wrap ((s[k].toNat : Int) - 48) = (s[k].toNat : Int) - 48 := IntWalk.u8_in _ (by omega)
          generalize RS (topV (digF s) s.size k) (P f) = X at *
          go_wp2_with fail
          refine (HRE.out _).mono ?_
          rintro e w' ⟨rfl, rfl⟩
          rw [HS.out]
          go_wp2
          go_round
          case rel => exact ⟨k + 1, by go_num, by omega, rfl⟩
          case measure => simp [intOf]; omega
        · have hd1 : decide ((k : Int) < s.size) = false := decide_eq_false (by omega)
          obtain rfl : k = s.size := by omega
          go_wp2
          go_ret
          exact ⟨by rw [HM.out, ← HEND.out]; rfl, Below.refl _ _⟩
    · have HM : Hid (mModText s f = -1) := Lib.hid (if_neg fun h => hf h.2)
      have HR1 := Lib.hid R1
      have HK := Lib.hid (known_no f w (by omega))
      clear R1 h1 hd hf
      go_enter Tryd.func30, Tryd.ntmps30
      go_wp2_with fail
      refine HR1.out.mono ?_
      rintro e w' ⟨rfl, rfl⟩
      go_wp2_with fail
      refine HK.out.mono ?_
      rintro e w' ⟨rfl, rfl⟩
      go_wp2
      go_ret
      exact ⟨by rw [HM.out]; rfl, Below.refl _ _⟩
  · have h1f : mDigitsOk s = false := by simpa using h1
    rw [h1f] at R1
    have HM : Hid (mModText s f = -1) := Lib.hid (if_neg fun h => h1 h.1)
    have HR1 := Lib.hid R1
    clear R1 h1 h1f
    go_enter Tryd.func30, Tryd.ntmps30
    go_wp2_with fail
    refine HR1.out.mono ?_
    rintro e w' ⟨rfl, rfl⟩
    go_wp2
    go_ret
    exact ⟨by rw [HM.out]; rfl, Below.refl _ _⟩
end Go.Proofs.YtaapmpjkcddababDoor
namespace Go.Proofs.YtaapmpjkcddababDoor
open Go.RowKit
/-- Where two texts of one length first differ. -/
theorem less_at : ∀ (l m : List UInt8), l.length = m.length → Op.bytesLess l m = true → ∃ k, k < l.length ∧ (∀ j, j < k → l.getD j 0 = m.getD j 0) ∧ (l.getD k 0).toNat < (m.getD k 0).toNat
  | [], [], _, h => by simp [Op.bytesLess] at h
  | [], _ :: _, h, _ => by simp at h
  | _ :: _, [], h, _ => by simp at h
  | a :: x, b :: y, h, hl => by
    rw [Op.bytesLess] at hl
    by_cases h1 : a < b
    · exact ⟨0, by simp, fun j hj => by omega, by simpa using UInt8.lt_iff_toNat_lt.1 h1⟩
    · by_cases h2 : a = b
      · simp [h2] at hl
        obtain ⟨k, hk, hj, hlt⟩ := less_at x y (by simpa using h) hl
        refine ⟨k + 1, by simpa using hk, fun j hj2 => ?_, by simpa using hlt⟩
        cases j with
        | zero => simpa using h2
        | succ j => simpa using hj j (by omega)
      · simp [h1, h2] at hl
theorem less_tri : ∀ (l m : List UInt8), l.length = m.length → Op.bytesLess l m = false → l = m ∨ Op.bytesLess m l = true
  | [], [], _, _ => .inl rfl
  | [], _ :: _, h, _ => by simp at h
  | _ :: _, [], h, _ => by simp at h
  | a :: x, b :: y, h, hl => by
    rw [Op.bytesLess] at hl ⊢
    by_cases h2 : a = b
    · subst h2
      simp at hl
      rcases less_tri x y (by simpa using h) hl with h3 | h3
      · exact .inl (by rw [h3])
      · exact .inr (by simp [h3])
    · have h1 : ¬ a < b := by
        intro h1
        simp [h1] at hl
      have h3 : b < a := by
        have e : a.toNat ≠ b.toNat := fun e => h2 (UInt8.toNat_inj.1 e)
        have h4 : ¬ a.toNat < b.toNat := fun h => h1 (UInt8.lt_iff_toNat_lt.2 h)
        exact UInt8.lt_iff_toNat_lt.2 (by omega)
      exact .inr (by simp [h3])
theorem bt_list (s : ByteArray) (j : Nat) : bt s j = ((s.toList.getD j 0).toNat : Int) := by
  rw [ByteArray.toList_eq]
  rfl
theorem len_list (s : ByteArray) : s.toList.length = s.size := by
  rw [ByteArray.toList_eq]
  simp
theorem num_less {a b : ByteArray} (ha : DigOk a) (hb : DigOk b) (h : a.size = b.size) (hl : Op.bytesLess a.toList b.toList = true) : numV a < numV b := by
  obtain ⟨k, hk, hj, hlt⟩ := less_at _ _ (by rw [len_list, len_list, h]) hl
  rw [len_list] at hk
  have e1 := digF_rev hk
  have e2 := digF_rev (s := b) (k := k) (by omega)
  rw [← h] at e2
  rw [bt_list] at e1 e2
  have hd := hb.dig
  rw [← h] at hd
  have := dig_lt (D := digF a) (E := digF b) (n := a.size) (k := a.size - 1 - k) (by omega) ha.dig hd (fun i h1 h2 => by
    have f1 := digF_rev (s := a) (k := a.size - 1 - i) (by omega)
    have f2 := digF_rev (s := b) (k := a.size - 1 - i) (by omega)
    rw [← h] at f2
    rw [bt_list, show a.size - 1 - (a.size - 1 - i) = i by omega] at f1 f2
    rw [f1, f2, hj _ (by omega)]) (by omega)
  unfold numV
  rw [← h]
  exact this
open Classical in
noncomputable def mCompareText (a b : ByteArray) : Int := if DigOk a ∧ DigOk b then (if numV a < numV b then -1 else if numV a = numV b then 0 else 1) else -2
theorem cmp_lt {a b : ByteArray} (ha : DigOk a) (hb : DigOk b) (h : numV a < numV b) : mCompareText a b = -1 := by
  unfold mCompareText
  rw [if_pos ⟨ha, hb⟩, if_pos h]
theorem cmp_gt {a b : ByteArray} (ha : DigOk a) (hb : DigOk b) (h : numV b < numV a) : mCompareText a b = 1 := by
  unfold mCompareText
  rw [if_pos ⟨ha, hb⟩, if_neg (by omega), if_neg (by omega)]
theorem cmp_eq {a b : ByteArray} (ha : DigOk a) (hb : DigOk b) (h : a.toList = b.toList) : mCompareText a b = 0 := by
  have e : a = b := by
    rw [ByteArray.toList_eq, ByteArray.toList_eq] at h
    exact ByteArray.ext (Array.toList_inj.1 h)
  unfold mCompareText
  rw [if_pos ⟨ha, hb⟩, e, if_neg (by omega), if_pos rfl]
end Go.Proofs.YtaapmpjkcddababDoor
namespace Go.Proofs.YtaapmpjkcddababDoor
open Go.RowKit
def sgnI (x y : Int) : Int := if x < y then -1 else if y < x then 1 else 0
theorem nanI (x : Int) (w : World) : Calls Tryd.prog 86 #[.int .i64 x] w (SameB w false) := by
  go_enter Tryd.func86, Tryd.ntmps86
  go_wp2
  go_ret
  exact ⟨by simp, rfl⟩
theorem nanS (x : ByteArray) (w : World) : Calls Tryd.prog 87 #[.string x] w (SameB w false) := by
  go_enter Tryd.func87, Tryd.ntmps87
  go_wp2
  go_ret
  exact ⟨by simp, rfl⟩
theorem cmpI (x y : Int) (w : World) : Calls Tryd.prog 64 #[.int .i64 x, .int .i64 y] w fun e w' => e = .returned (.int .i64 (sgnI x y)) ∧ w = w' := by
  rcases Int.lt_trichotomy x y with h | h | h
  · have HR : Hid (sgnI x y = -1) := Lib.hid (if_pos h)
    have d : decide (x < y) = true := decide_eq_true h
    go_enter Tryd.func64, Tryd.ntmps64
    go_wp2_with fail
    refine (nanI x w).mono ?_
    rintro e w' ⟨rfl, rfl⟩
    go_wp2_with fail
    refine (nanI y w).mono ?_
    rintro e w' ⟨rfl, rfl⟩
    go_wp2
    go_ret
    exact ⟨by rw [HR.out]; rfl, rfl⟩
  · subst h
    have HR : Hid (sgnI x x = 0) := Lib.hid (by unfold sgnI; rw [if_neg (by omega), if_neg (by omega)])
    go_enter Tryd.func64, Tryd.ntmps64
    go_wp2_with fail
    refine (nanI x w).mono ?_
    rintro e w' ⟨rfl, rfl⟩
    go_wp2_with fail
    refine (nanI x w).mono ?_
    rintro e w' ⟨rfl, rfl⟩
    go_wp2
    go_ret
    exact ⟨by rw [HR.out]; rfl, rfl⟩
  · have HR : Hid (sgnI x y = 1) := Lib.hid (by unfold sgnI; rw [if_neg (by omega), if_pos h])
    have d : decide (x < y) = false := decide_eq_false (by omega)
    have d2 : decide (y < x) = true := decide_eq_true h
    go_enter Tryd.func64, Tryd.ntmps64
    go_wp2_with fail
    refine (nanI x w).mono ?_
    rintro e w' ⟨rfl, rfl⟩
    go_wp2_with fail
    refine (nanI y w).mono ?_
    rintro e w' ⟨rfl, rfl⟩
    go_wp2
    go_ret
    exact ⟨by rw [HR.out]; rfl, rfl⟩
def sgnB (p q : Bool) : Int := if p then -1 else if q then 0 else 1
theorem cmpS (x y : ByteArray) (w : World) : Calls Tryd.prog 65 #[.string x, .string y] w fun e w' => e = .returned (.int .i64 (sgnB (Op.bytesLess x.toList y.toList) (x.toList == y.toList))) ∧ w = w' := by
  cases h1 : Op.bytesLess x.toList y.toList with
  | true =>
    go_enter Tryd.func65, Tryd.ntmps65
    go_wp2_with fail
    refine (nanS x w).mono ?_
    rintro e w' ⟨rfl, rfl⟩
    go_wp2_with fail
    refine (nanS y w).mono ?_
    rintro e w' ⟨rfl, rfl⟩
    go_wp2
    go_ret
    exact ⟨rfl, rfl⟩
  | false =>
    cases h2 : (x.toList == y.toList) with
    | true =>
      go_enter Tryd.func65, Tryd.ntmps65
      go_wp2_with fail
      refine (nanS x w).mono ?_
      rintro e w' ⟨rfl, rfl⟩
      go_wp2_with fail
      refine (nanS y w).mono ?_
      rintro e w' ⟨rfl, rfl⟩
      go_wp2
      go_ret
      exact ⟨rfl, rfl⟩
    | false =>
      go_enter Tryd.func65, Tryd.ntmps65
      go_wp2_with fail
      refine (nanS x w).mono ?_
      rintro e w' ⟨rfl, rfl⟩
      go_wp2_with fail
      refine (nanS y w).mono ?_
      rintro e w' ⟨rfl, rfl⟩
      go_wp2
      go_ret
      exact ⟨rfl, rfl⟩
theorem orI (x y : Int) (b : Nat) (w : World) (hx : w.cell? ⟨b, 0, none⟩ = some (.int .i64 x)) (hy : w.cell? ⟨b, 1, none⟩ = some (.int .i64 y)) : Calls Tryd.prog 63 #[.slice (some ⟨b, 0, none⟩) 2 2] w fun e w' => e = .returned (.int .i64 (if x = 0 then y else x)) ∧ w = w' := by
  by_cases h1 : x = 0
  · subst h1
    rw [if_pos rfl]
    by_cases h2 : y = 0
    · subst h2
      go_enter Tryd.func63, Tryd.ntmps63
      go_wp2
      refine wp_loop_rounds 3 ?_
      rw [rounds_succ]
      go_wp2
      rw [rounds_succ]
      go_wp2
      rw [rounds_succ]
      go_wp2
      go_ret
      exact ⟨rfl, rfl⟩
    · have d : (y != 0) = true := by simpa using h2
      go_enter Tryd.func63, Tryd.ntmps63
      go_wp2
      refine wp_loop_rounds 2 ?_
      rw [rounds_succ]
      go_wp2
      rw [rounds_succ]
      go_wp2
      go_ret
      exact ⟨rfl, rfl⟩
  · have d : (x != 0) = true := by simpa using h1
    rw [if_neg h1]
    go_enter Tryd.func63, Tryd.ntmps63
    go_wp2
    refine wp_loop_rounds 1 ?_
    rw [rounds_succ]
    go_wp2
    go_ret
    exact ⟨rfl, rfl⟩
theorem cmp_all {a b : ByteArray} (ha : DigOk a) (hb : DigOk b) : (if sgnI (a.size : Int) b.size = 0 then sgnB (Op.bytesLess a.toList b.toList) (a.toList == b.toList) else sgnI (a.size : Int) b.size) = mCompareText a b := by
  rcases Nat.lt_trichotomy a.size b.size with h | h | h
  · have e : sgnI (a.size : Int) b.size = -1 := if_pos (by omega)
    rw [e, if_neg (by omega), cmp_lt ha hb (can_lt ha.can hb.can h)]
  · have e : sgnI (a.size : Int) b.size = 0 := by unfold sgnI; rw [if_neg (by omega), if_neg (by omega)]
    rw [e, if_pos rfl]
    cases h1 : Op.bytesLess a.toList b.toList with
    | true => exact (cmp_lt ha hb (num_less ha hb h h1)).symm
    | false =>
      cases h2 : (a.toList == b.toList) with
      | true => exact (cmp_eq ha hb (beq_iff_eq.1 h2)).symm
      | false =>
        rcases less_tri _ _ (by rw [len_list, len_list, h]) h1 with h3 | h3
        · rw [beq_iff_eq.2 h3] at h2; cases h2
        · exact (cmp_gt ha hb (num_less hb ha h.symm h3)).symm
  · have e : sgnI (a.size : Int) b.size = 1 := by unfold sgnI; rw [if_neg (by omega), if_pos (by omega)]
    rw [e, if_neg (by omega), cmp_gt ha hb (can_lt hb.can ha.can h)]
theorem iCompareText (a b : ByteArray) (w : World) (hna : a.size ≤ 1048576) (hnb : b.size ≤ 1048576) :
    Calls Tryd.prog 33 #[.string a, .string b] w (IntP w (mCompareText a b)) := by
  have G1 := iDigitsOk a w hna
  have G2 := iDigitsOk b w hnb
  by_cases ha : DigOk a
  · rw [dig_iff.2 ha] at G1
    by_cases hb : DigOk b
    · rw [dig_iff.2 hb] at G2
      have HR := Lib.hid (cmp_all ha hb)
      have C1 := Lib.hid (cmpI a.size b.size w)
      have C2 := Lib.hid (cmpS a b w)
      have HO : Hid (∀ x y : Int, Calls Tryd.prog 63 #[.slice (some ⟨w.heap.size, 0, none⟩) 2 2] (w.alloc (.cells #[.int .i64 x, .int .i64 y] 3)) fun e w' => e = .returned (.int .i64 (if x = 0 then y else x)) ∧ w.alloc (.cells #[.int .i64 x, .int .i64 y] 3) = w') := Lib.hid fun x y => orI x y _ _ (by unfold World.cell? World.alloc; simp) (by unfold World.cell? World.alloc; simp)
      have HB : Hid (∀ o, Below w.heap.size w (w.alloc o)) := Lib.hid fun o => (Below.refl _ _).alloc (Nat.le_refl _) o
      clear ha hb
      generalize sgnI (a.size : Int) b.size = X at *
      generalize sgnB (Op.bytesLess a.toList b.toList) (a.toList == b.toList) = Y at *
      go_enter Tryd.func33, Tryd.ntmps33
      go_wp2_with fail
      refine G1.mono ?_
      rintro e w' ⟨rfl, rfl⟩
      go_wp2_with fail
      refine G2.mono ?_
      rintro e w' ⟨rfl, rfl⟩
      go_wp2_with fail
      refine C1.out.mono ?_
      rintro e w' ⟨rfl, rfl⟩
      go_wp2_with fail
      refine C2.out.mono ?_
      rintro e w' ⟨rfl, rfl⟩
      go_wp2_with fail
      refine (HO.out X Y).mono ?_
      rintro e w' ⟨rfl, rfl⟩
      rw [HR.out]
      go_wp2
      go_ret
      exact ⟨rfl, HB.out _⟩
    · rw [dig_not.2 hb] at G2
      have HR : Hid (mCompareText a b = -2) := Lib.hid (by unfold mCompareText; rw [if_neg fun h => hb h.2])
      clear ha hb
      go_enter Tryd.func33, Tryd.ntmps33
      go_wp2_with fail
      refine G1.mono ?_
      rintro e w' ⟨rfl, rfl⟩
      go_wp2_with fail
      refine G2.mono ?_
      rintro e w' ⟨rfl, rfl⟩
      go_wp2
      go_ret
      exact ⟨by rw [HR.out]; rfl, Below.refl _ _⟩
  · rw [dig_not.2 ha] at G1
    have HR : Hid (mCompareText a b = -2) := Lib.hid (by unfold mCompareText; rw [if_neg fun h => ha h.1])
    clear ha G2
    go_enter Tryd.func33, Tryd.ntmps33
    go_wp2_with fail
    refine G1.mono ?_
    rintro e w' ⟨rfl, rfl⟩
    go_wp2
    go_ret
    exact ⟨by rw [HR.out]; rfl, Below.refl _ _⟩
end Go.Proofs.YtaapmpjkcddababDoor
namespace Go.Proofs.YtaapmpjkcddababDoor
open Go.RowKit
theorem sPowText (a : ByteArray) (e : Int) (w : World) (hna : a.size ≤ 1048576) :
    Calls Tryd.prog 11 #[.string a, .int .i64 e] w (TextB w (mPowText0 a e) (mPowText1 a e)) := by
  have G1 := sDigitsOk a w hna
  by_cases ha : DigOk a
  · by_cases he : 0 ≤ e ∧ e ≤ 1000
    · obtain ⟨E, rfl⟩ : ∃ E : Nat, e = E := ⟨e.toNat, by omega⟩
      exact sPowText_on a E w ha (by omega)
    · rw [dig_iff.2 ha] at G1
      have G2 := in_c e 0 1000 w
      rw [show decide (0 ≤ e ∧ e ≤ 1000) = false from decide_eq_false he] at G2
      have HR := Lib.hid (pow_no (a := a) (e := e) fun h => he h.2.1)
      clear ha he hna
      go_enter Tryd.func11, Tryd.ntmps11
      go_wp2_with fail
      refine G1.mono ?_
      rintro e w' ⟨rfl, rfl⟩
      go_wp2_with fail
      refine G2.mono ?_
      rintro e w' ⟨rfl, rfl⟩
      go_wp2
      go_ret2
      exact text_b HR.out (Below.refl _ _)
  · rw [dig_not.2 ha] at G1
    have HR := Lib.hid (pow_no (a := a) (e := e) fun h => ha h.1)
    clear ha hna
    go_enter Tryd.func11, Tryd.ntmps11
    go_wp2_with fail
    refine G1.mono ?_
    rintro e w' ⟨rfl, rfl⟩
    go_wp2
    go_ret2
    exact text_b HR.out (Below.refl _ _)
end Go.Proofs.YtaapmpjkcddababDoor
