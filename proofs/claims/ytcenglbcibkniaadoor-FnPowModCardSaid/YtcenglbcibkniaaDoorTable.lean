/-
  The table of fields: what the rows' list gives, how it is read again behind a call, and a world that holds it.
-/
import Derived.Test.YtcenglbcibkniaaDoorCards
import Derived.Test.YtcenglbcibkniaaDoorTie
import Derived.Test.YtcenglbcibkniaaDoorWalkA
import Derived.ProofKit
import Derived.OpenShut
import Derived.Deep.Strs
import Derived.Deep.DeepHandedRow
import Derived.Lib.LaidTab
namespace Go.Proofs.YtcenglbcibkniaaDoor
open Go.ChangeShapes Go.WideShapes Go.ChangeAt Go.RowKit

theorem own : ownKnob Tryd.prog.godebug = none := by kernel_rfl
theorem gTab : Tryd.prog.globalNamed "loop.example/g00710/impl.fieldTable" = some 0 := by kernel_rfl
theorem gTabType : (Tryd.prog.globals[0]?).map (·.type) = some 71 := by kernel_rfl
theorem cells60 : Tryd.prog.cellsOf 71 = 27 := by kernel_rfl
theorem cells59 : Tryd.prog.cellsOf 70 = 3 := by kernel_rfl
theorem cells3 : Tryd.prog.cellsOf 3 = 1 := by kernel_rfl
theorem cells4 : Tryd.prog.cellsOf 4 = 1 := by kernel_rfl
theorem cells5 : Tryd.prog.cellsOf 5 = 1 := by kernel_rfl
def tabCells : Array Value := #[.int .i64 17, .int .i64 3, .int .i64 4, .int .i64 97, .int .i64 5, .int .i64 5, .int .i64 193, .int .i64 5, .int .i64 6, .int .i64 257, .int .i64 3, .int .i64 8, .int .i64 7681, .int .i64 17, .int .i64 9, .int .i64 12289, .int .i64 11, .int .i64 12, .int .i64 998244353, .int .i64 3, .int .i64 23, .int .i64 469762049, .int .i64 3, .int .i64 26, .int .i64 1004535809, .int .i64 3, .int .i64 21]
theorem trod3 {H : Type} {enc : TypeId × Value → H} {w : World} {base : Nat} {spare : Nat → Bool} {held : Bool} {fuel : Nat} {c : List Value} {a b d : Int} {ps : List MemPlace}
    (h : DataW.trod enc Tryd.prog w base spare held fuel 70 c = some (.agg [.lit (.int .i64 a), .lit (.int .i64 b), .lit (.int .i64 d)], ps)) : c = [.int .i64 a, .int .i64 b, .int .i64 d] := by
  obtain ⟨y0, y1, y2, n, e, hl, h0, h1, h2⟩ := Deep.trod_struct3 Tryd.underlying70 h
  rw [cells59] at hl
  match c, hl with
  | [x, y, z], _ =>
    simp only [cells3] at h0 h1 h2
    obtain ⟨a', e0, rfl, _⟩ := DataW.trod_int Tryd.underlying3 h0
    obtain ⟨b', e1, rfl, _⟩ := DataW.trod_int Tryd.underlying3 h1
    obtain ⟨d', e2, rfl, _⟩ := DataW.trod_int Tryd.underlying3 h2
    simp at e e0 e1 e2
    obtain ⟨⟨rfl, rfl, rfl⟩, _⟩ := e
    rw [e0, e1, e2]
theorem cut3 {l a : List Value} (h : l.take 3 = a) : l = a ++ l.drop 3 := by rw [← h, List.take_append_drop]
theorem table_cells {W : World} {fuel : Nat} {cs : Array Value} {p : List MemPlace}
    (h : DataW.trod (fun _ => ()) Tryd.prog W 0 (fun _ => true) false fuel 71 cs.toList = some (Rows.laid_loop_example_g00710_impl_fieldTable, p)) : cs = tabCells := by
  obtain ⟨xs, m, _, e, hl, hn, hx⟩ := DataW.trod_array Tryd.underlying71 h
  rw [cells60] at hl
  simp only [cells59] at hx
  unfold Rows.laid_loop_example_g00710_impl_fieldTable at e
  simp only [Prod.mk.injEq, DataW.agg.injEq] at e
  have e1 := e.1
  match xs, hn with
  | [x0, x1, x2, x3, x4, x5, x6, x7, x8], _ =>
    simp only [List.map_cons, List.map_nil, List.cons.injEq, and_true] at e1
    obtain ⟨f0, f1, f2, f3, f4, f5, f6, f7, f8⟩ := e1
    have g0 := cut3 (trod3 (ps := x0.2) ((hx 0 (by decide)).trans (by show some x0 = _; rw [f0])))
    have g1 := cut3 (trod3 (ps := x1.2) ((hx 1 (by decide)).trans (by show some x1 = _; rw [f1])))
    have g2 := cut3 (trod3 (ps := x2.2) ((hx 2 (by decide)).trans (by show some x2 = _; rw [f2])))
    have g3 := cut3 (trod3 (ps := x3.2) ((hx 3 (by decide)).trans (by show some x3 = _; rw [f3])))
    have g4 := cut3 (trod3 (ps := x4.2) ((hx 4 (by decide)).trans (by show some x4 = _; rw [f4])))
    have g5 := cut3 (trod3 (ps := x5.2) ((hx 5 (by decide)).trans (by show some x5 = _; rw [f5])))
    have g6 := cut3 (trod3 (ps := x6.2) ((hx 6 (by decide)).trans (by show some x6 = _; rw [f6])))
    have g7 := cut3 (trod3 (ps := x7.2) ((hx 7 (by decide)).trans (by show some x7 = _; rw [f7])))
    have g8 := cut3 (trod3 (ps := x8.2) ((hx 8 (by decide)).trans (by show some x8 = _; rw [f8])))
    simp only [List.drop_drop, Nat.zero_mul, List.drop_zero, Nat.one_mul] at g0 g1 g2 g3 g4 g5 g6 g7 g8
    have ez : List.drop (8 * 3 + 3) cs.toList = [] := List.drop_of_length_le (by rw [hl]; decide)
    apply Array.toList_inj.1
    rw [g0, g1, g2, g3, g4, g5, g6, g7, g8, ez]
    rfl
theorem table_var {W : World} (h : laidMetH Tryd.prog [("loop.example/g00710/impl.fieldTable", Rows.laid_loop_example_g00710_impl_fieldTable)] W) : W.var? Tryd.prog "loop.example/g00710/impl.fieldTable" = some tabCells := by
  have h' : laidMet Tryd.prog [("loop.example/g00710/impl.fieldTable", Rows.laid_loop_example_g00710_impl_fieldTable)] W := h
  obtain ⟨ps, ⟨g, t, cs, fuel, p, q, h1, h2, h3, h4, _⟩, _⟩ := h'
  obtain rfl : 0 = g := Option.some.inj (gTab.symm.trans h1)
  obtain rfl : 71 = t := Option.some.inj (gTabType.symm.trans h2)
  rw [h3, table_cells h4]
theorem var_cell {W : World} (h : W.var? Tryd.prog "loop.example/g00710/impl.fieldTable" = some tabCells) (i : Nat) : W.cell? ⟨0, i, none⟩ = tabCells[i]? := by
  simp only [World.var?, gTab, Option.bind_some] at h
  unfold World.cell?
  split at h
  · rename_i cs _ _ e
    cases h
    simp [e]
  · cases h
theorem tab_of {W : World} (h : W.var? Tryd.prog "loop.example/g00710/impl.fieldTable" = some tabCells) : Tab W := by
  intro n h0 h8
  simp only [var_cell h]
  rcases nine h0 h8 with rfl | rfl | rfl | rfl | rfl | rfl | rfl | rfl | rfl <;> exact ⟨rfl, rfl, rfl⟩
theorem var_size {W : World} (h : W.var? Tryd.prog "loop.example/g00710/impl.fieldTable" = some tabCells) : 0 < W.heap.size := by
  simp only [World.var?, gTab, Option.bind_some] at h
  split at h
  · rename_i e
    exact (Array.getElem?_eq_some_iff.1 e).1
  · cases h
theorem tab_trod {H : Type} (enc : TypeId × Value → H) (W : World) (sp : Nat → Bool) : DataW.trod enc Tryd.prog W 0 sp true 8 71 tabCells.toList = some (Rows.laid_loop_example_g00710_impl_fieldTable, []) := by kernel_rfl
theorem tab_vars {H : Type} (enc : TypeId × Value → H) {W : World} (sp : Nat → Bool) (h : W.var? Tryd.prog "loop.example/g00710/impl.fieldTable" = some tabCells) :
    DataW.TrodVars enc Tryd.prog W sp ["loop.example/g00710/impl.fieldTable"] [Rows.laid_loop_example_g00710_impl_fieldTable] (MemPlace.row ⟨0, 0, none⟩ 27 ++ []) :=
  trodVars_mk1 gTab gTabType h (tab_trod enc W sp)
/-- A world for the witness: the settled one, the table (block 0) holding what its initialiser lays. -/
noncomputable def laidWorld (os : Os) : World :=
  { World.holding Tryd.prog os ⟨#[], #[], []⟩ with heap := (World.holding Tryd.prog os ⟨#[], #[], []⟩).heap.modify 0 fun
      | .cells _ t frozen => .cells tabCells t frozen
      | o => o }
theorem below_var {W W' : World} (hb : Below W.heap.size W W') (h : W.var? Tryd.prog "loop.example/g00710/impl.fieldTable" = some tabCells) : W'.var? Tryd.prog "loop.example/g00710/impl.fieldTable" = some tabCells :=
  var?_below hb gTab (var_size h) h
end Go.Proofs.YtcenglbcibkniaaDoor
