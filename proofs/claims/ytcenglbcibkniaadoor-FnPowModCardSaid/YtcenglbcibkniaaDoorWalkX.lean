/-
  Lists as answers: what is owned, what is kept, what is marked.
-/
import Derived.Test.YtcenglbcibkniaaDoorWalkM
import Derived.Test.YtcenglbcibkniaaDoorNumT
namespace Go.Proofs.YtcenglbcibkniaaDoor
open Go.RowKit
/-- A list in memory of its own, made at B or later: nil, or a whole block. -/
def OwnA (w : World) (B : Nat) (a : Option Addr) (l : List Int) (cap : Nat) : Prop :=
  (a = none ∧ cap = 0 ∧ l.length = 0) ∨ ∃ g, a = some ⟨g, 0, none⟩ ∧ cap = l.length ∧ B ≤ g ∧ Own w g l.length (lf l)
theorem OwnA.src {w : World} {B : Nat} {a : Option Addr} {l : List Int} {cap : Nat} (h : OwnA w B a l cap) : Src w a l.length (lf l) := by
  rcases h with ⟨_, _, h⟩ | ⟨g, rfl, _, _, h⟩
  · exact .inl h
  · exact h.src
theorem OwnA.keep {w w' : World} {B : Nat} {a : Option Addr} {l : List Int} {cap : Nat} (h : OwnA w B a l cap) (hb : Below w.heap.size w w') : OwnA w' B a l cap := by
  rcases h with h | ⟨g, h1, h2, h3, h4⟩
  · exact .inl h
  · exact .inr ⟨g, h1, h2, h3, h4.keep hb⟩
theorem OwnA.low {w : World} {B B' : Nat} {a : Option Addr} {l : List Int} {cap : Nat} (h : OwnA w B a l cap) (hB : B' ≤ B) : OwnA w B' a l cap := by
  rcases h with h | ⟨g, h1, h2, h3, h4⟩
  · exact .inl h
  · exact .inr ⟨g, h1, h2, Nat.le_trans hB h3, h4⟩
/-- Its block, if it has one, lies below B. -/
def Lies (a : Option Addr) (B : Nat) : Prop := ∀ x, a = some x → x.block < B
theorem OwnA.lies {w : World} {B : Nat} {a : Option Addr} {l : List Int} {cap : Nat} (h : OwnA w B a l cap) : Lies a w.heap.size := by
  intro x hx
  rcases h with ⟨h1, _⟩ | ⟨g, h1, _, _, h4⟩
  · rw [h1] at hx; cases hx
  · rw [h1] at hx; cases hx; exact h4.lt
theorem Lies.mono {a : Option Addr} {B B' : Nat} (h : Lies a B) (hB : B ≤ B') : Lies a B' := fun x hx => Nat.lt_of_lt_of_le (h x hx) hB
/-- The world has grown, and written at most into the block of a. -/
def Grow (w w' : World) (a : Option Addr) : Prop := w = w' ∨ ∃ g, a = some ⟨g, 0, none⟩ ∧ w.grownBy w' (some g)
theorem OwnA.after {w w' : World} {B cap : Nat} {a a2 : Option Addr} {l : List Int} (h : OwnA w B a2 l cap) (hg : Grow w w' a) (hl : Lies a B) : OwnA w' B a2 l cap := by
  rcases hg with rfl | ⟨g, rfl, hg⟩
  · exact h
  · have := hl _ rfl
    rcases h with h | ⟨g2, h1, h2, h3, h4⟩
    · exact .inl h
    · refine .inr ⟨g2, h1, h2, h3, World.rowIs.of_block h4 (hg.block g2 h4.lt (fun e => ?_))⟩
      injection e with e
      have : g < B := this
      omega
theorem Grow.below {u w w' : World} {B0 B cap : Nat} {a : Option Addr} {l : List Int} (hg : Grow w w' a) (ho : OwnA w B a l cap) (hB : B0 ≤ B) (hb : Below B0 u w) (hs : B0 ≤ w.heap.size) : Below B0 u w' := by
  rcases hg with rfl | ⟨g, rfl, hg⟩
  · exact hb
  · rcases ho with ⟨h, _⟩ | ⟨g2, h1, h2, h3, h4⟩
    · cases h
    · cases h1
      exact hb.grown hg hs (fun k hk => by injection hk with hk; omega)
theorem Grow.size {w w' : World} {a : Option Addr} (hg : Grow w w' a) : w.heap.size ≤ w'.heap.size := by
  rcases hg with rfl | ⟨g, rfl, hg⟩
  · exact Nat.le_refl _
  · exact hg.size
def ListL (w : World) (l : List Int) (e : Ending) (w' : World) : Prop := ∃ a cap, e = .returned (.slice a l.length cap) ∧ Src w' a l.length (lf l) ∧ Below w.heap.size w w'
def OwnL (w : World) (l : List Int) (e : Ending) (w' : World) : Prop := ∃ a cap, e = .returned (.slice a l.length cap) ∧ OwnA w' w.heap.size a l cap ∧ Below w.heap.size w w'
theorem OwnL.list {w w' : World} {l : List Int} {e : Ending} (h : OwnL w l e w') : ListL w l e w' := by
  obtain ⟨a, cap, h1, h2, h3⟩ := h
  exact ⟨a, cap, h1, h2.src, h3⟩
theorem OwnL.of_copy {w w' : World} {l : List Int} {e : Ending} (h : CopyP w l.length (lf l) e w') : OwnL w l e w' := by
  obtain ⟨h1, h2, h3⟩ := h
  exact ⟨_, _, h1, .inr ⟨_, rfl, rfl, Nat.le_refl _, h2⟩, h3⟩
/-- A mark in a block that lies further on leaves it. -/
theorem OwnA.before {w w' : World} {B B2 cap cap2 : Nat} {a a2 : Option Addr} {l l2 : List Int} (h : OwnA w B a l cap) (hg : Grow w w' a2) (h2 : OwnA w B2 a2 l2 cap2) (hl : Lies a B2) : OwnA w' B a l cap := by
  rcases hg with rfl | ⟨g, rfl, hg⟩
  · exact h
  · rcases h with h | ⟨g1, rfl, h12, h13, h14⟩
    · exact .inl h
    · rcases h2 with ⟨h2, _⟩ | ⟨g2, h21, h22, h23, h24⟩
      · cases h2
      · cases h21
        have : g1 < B2 := hl _ rfl
        refine .inr ⟨g1, rfl, h12, h13, World.rowIs.of_block h14 (hg.block g1 h14.lt (fun e => ?_))⟩
        injection e with e
        omega
def ListLB (w : World) (l : List Int) (b : Bool) (e : Ending) (w' : World) : Prop := ∃ a cap, e = .returned (.tuple #[.slice a l.length cap, .bool b]) ∧ Src w' a l.length (lf l) ∧ Below w.heap.size w w'
def OwnLB (w : World) (l : List Int) (b : Bool) (e : Ending) (w' : World) : Prop := ∃ a cap, e = .returned (.tuple #[.slice a l.length cap, .bool b]) ∧ OwnA w' w.heap.size a l cap ∧ Below w.heap.size w w'
def ListLLB (w : World) (l m : List Int) (b : Bool) (e : Ending) (w' : World) : Prop := ∃ a cap a2 cap2, e = .returned (.tuple #[.slice a l.length cap, .slice a2 m.length cap2, .bool b]) ∧ Src w' a l.length (lf l) ∧ Src w' a2 m.length (lf m) ∧ Below w.heap.size w w'
def OwnLLB (w : World) (l m : List Int) (b : Bool) (e : Ending) (w' : World) : Prop := ∃ a cap a2 cap2 B, e = .returned (.tuple #[.slice a l.length cap, .slice a2 m.length cap2, .bool b]) ∧ OwnA w' w.heap.size a l cap ∧ Lies a B ∧ w.heap.size ≤ B ∧ OwnA w' B a2 m cap2 ∧ Below w.heap.size w w'
def BoolP (w : World) (b : Bool) (e : Ending) (w' : World) : Prop := e = .returned (.bool b) ∧ Below w.heap.size w w'
theorem OwnA.nil {w : World} {B : Nat} {l : List Int} (h : l.length = 0) : OwnA w B none l 0 := .inl ⟨rfl, rfl, h⟩
theorem own_congr {w : World} {g n m : Nat} {F G : Nat → Int} (h : Own w g n F) (hn : n = m) (e : ∀ j, j < n → F j = G j) : Own w g m G := by
  subst hn
  exact World.rowIs.congr h fun j hj => by rw [e j hj]
/-- A block of n integers is the list of its first n. -/
theorem OwnA.of {w : World} {g n B : Nat} {F : Nat → Int} {l : List Int} (h : Own w g n F) (hn : n = l.length) (hB : B ≤ g) (e : ∀ j, j < n → F j = lf l j) : OwnA w B (some ⟨g, 0, none⟩) l n :=
  .inr ⟨g, rfl, hn, hB, own_congr h hn e⟩
theorem below_up {B : Nat} {a w w' : World} (h : Below B a w) (h2 : Below w.heap.size w w') (hB : B ≤ w.heap.size) : Below B a w' := h.trans (h2.mono hB)
theorem cp_l (a : Option Addr) (l : List Int) (cap : Nat) (w : World) (hn : l.length ≤ 1048576) (hs : Src w a l.length (lf l)) : Calls Tryd.prog 11 #[.slice a l.length cap] w (ListL w l) := cp_c a l.length cap (lf l) w hn hs
/-- k, k + 1, .. -/
def marks (k : Int) (n : Nat) : List Int := tab n fun j => k + j
theorem marks_len (k : Int) (n : Nat) : (marks k n).length = n := tab_len _ _
def MarkL (w : World) (B : Nat) (a : Option Addr) (n cap : Nat) (k : Int) (e : Ending) (w' : World) : Prop := e = .returned (.int .i64 (k + n)) ∧ OwnA w' B a (marks k n) cap ∧ Grow w w' a
/-- The row of a law's argument. -/
theorem row_list {w : World} {a : Option Addr} {len cap : Nat} {zs : List Int} (h : IsRow .i64 w a len cap zs) : ∃ l : List Int, l.length = len ∧ Src w a l.length (lf l) := by
  refine ⟨tab len (fun j => zs.getD j 0), tab_len _ _, ?_⟩
  have hs := src_of_row h
  rw [tab_len]
  refine hs.imp id ?_
  rintro ⟨b, off, e, hlt, hc⟩
  exact ⟨b, off, e, hlt, fun j hj => by rw [hc j hj, lf_tab, if_pos hj]⟩
end Go.Proofs.YtcenglbcibkniaaDoor
