/-
  Texts of the proofs of this seat, joined (part 3).
-/
import Derived.LaidEql
import Derived.Stop.Asserts
import Derived.RowKitTokens
import Derived.Test.YtangofjpnhhfeabDoorCards
import Derived.Test.YtangofjpnhhfeabDoorTie
import Derived.ProofKit
import Derived.OpenShut
import Derived.Deep.Strs
import Derived.Deep.DeepHandedRow
import Derived.Lib.LaidTab
import Derived.LaidHandle
import Derived.JoinedOf
import Derived.KernelRfl
import Derived.Deep.RegionHeld3
import Derived.Deep.AppendLies
import Derived.Deep.QuietTactic
import Derived.BigQuiet
import Derived.StillTailTactics
import Derived.Deep.CutBlock
import Derived.Deep.CutRange
import Derived.Outline
import Derived.Test.YtangofjpnhhfeabDoorK2
namespace Go.Proofs.YtangofjpnhhfeabDoor
open Go.RowKit Go.Extern.Stop Go.Stop Go.Extern
/-- The world holds the handle of the type error where package errors looks for it. -/
def Ety (w : World) : Prop := w.cell? ⟨0, 0, none⟩ = some (.iface 111 (.agg #[.pointer (some ⟨2, 76, none⟩)]))
theorem Ety.below {w w' : World} (h : Ety w) (hb : Below w.heap.size w w') : Ety w' := (hb.cell (p := ⟨0, 0, none⟩) (block_lt_of_cell h)).trans h
theorem as_nil (t : Value) (w : World) : Calls Tryd.prog 78 #[.nilIface, t] w fun e w' => e = .returned (.bool false) ∧ w = w' := by
  go_enter Tryd.func78, Tryd.ntmps78
  go_wp2
  go_ret
  exact ⟨rfl, rfl⟩
theorem as_valueP (t : Addr) (w : World) : (ReflectliteValue.unpack (.iface 82 (.pointer (some t)))).run Tryd.prog w
    = .ok (.agg #[.pointer (some ⟨2, 82, none⟩), .pointer (some ⟨w.heap.size, 0, none⟩), .int .u64 150]) (w.alloc (.cells #[.pointer (some t)] 82)) := by kernel_rfl
theorem as_typeP (a : Addr) (w : World) : (ReflectliteValue.methodAny (ReflectliteValue.valueError "reflectlite.Value.Type" 0) (fun t _ _ _ => ReflectliteType.toType t) #[.agg #[.pointer (some ⟨2, 82, none⟩), .pointer (some a), .int .u64 150]]).run Tryd.prog w
    = .ok (.iface 111 (.agg #[.pointer (some ⟨2, 82, none⟩)])) w := by kernel_rfl
theorem as_mKind (h : Value) (w : World) : (Go.method 253 111 (.agg #[h]) "Kind").run Tryd.prog w = .ok (133, h) w := by kernel_rfl
theorem as_kindP (w : World) : ((ReflectliteType.abiMethod fun t => (fun a : Nat => Value.int IntKind.u8 (a : Int)) <$> Rtype.kind t) #[.pointer (some ⟨2, 82, none⟩)]).run Tryd.prog w = .ok (.int .u8 22) w := by kernel_rfl
theorem as_kindE (w : World) : ((ReflectliteType.abiMethod fun t => (fun a : Nat => Value.int IntKind.u8 (a : Int)) <$> Rtype.kind t) #[.pointer (some ⟨2, 80, none⟩)]).run Tryd.prog w = .ok (.int .u8 25) w := by kernel_rfl
theorem as_rlm (z : Sem Value) (f : TypeId → Addr → Nat → Nat → Sem Value) (v : Value) :
    ReflectliteValue.method z f #[v] = (do match ← ReflectliteValue.parts v with | none => z | some (t, a, fl) => f t a fl (fl % 32)) := rfl
theorem as_partsP (a : Addr) (w : World) : (ReflectliteValue.parts (.agg #[.pointer (some ⟨2, 82, none⟩), .pointer (some a), .int .u64 150])).run Tryd.prog w = .ok (some (82, a, 150)) w := by kernel_rfl
theorem as_isNilP (a p : Addr) (W : World) (ha : W.cell? a = some (.pointer (some p))) :
    (ReflectliteValue.method (ReflectliteValue.valueError "reflectlite.Value.IsNil" 0) ReflectliteValue.isNil #[.agg #[.pointer (some ⟨2, 82, none⟩), .pointer (some a), .int .u64 150]]).run Tryd.prog W = .ok (.bool false) W := by
  rw [as_rlm]
  simp only [Sem.run_bind, as_partsP, Result.andThen]
  simp [ReflectliteValue.isNil, loadVar, isAgg, underlying, Tryd.underlying82, ha, Result.andThen]
theorem as_mElem (h : Value) (w : World) : (Go.method 253 111 (.agg #[h]) "Elem").run Tryd.prog w = .ok (144, .agg #[h]) w := by kernel_rfl
theorem as_mImpl (h : Value) (w : World) : (Go.method 253 111 (.agg #[h]) "Implements").run Tryd.prog w = .ok (145, .agg #[h]) w := by kernel_rfl
theorem as_mAss (h : Value) (w : World) : (Go.method 253 111 (.agg #[h]) "AssignableTo").run Tryd.prog w = .ok (142, .agg #[h]) w := by kernel_rfl
theorem as_elemP (w : World) : (ReflectliteType.method ReflectliteType.elem #[.agg #[.pointer (some ⟨2, 82, none⟩)]]).run Tryd.prog w = .ok (.iface 111 (.agg #[.pointer (some ⟨2, 80, none⟩)])) w := by kernel_rfl
theorem as_implE (w : World) : (ReflectliteType.relation "Implements" ReflectliteType.implements_ #[.agg #[.pointer (some ⟨2, 80, none⟩)], .iface 111 (.agg #[.pointer (some ⟨2, 76, none⟩)])]).run Tryd.prog w = .ok (.bool true) w := by kernel_rfl
theorem as_typeOfE (v : Value) (w : World) : (ReflectliteType.typeOf #[.iface 80 v]).run Tryd.prog w = .ok (.iface 111 (.agg #[.pointer (some ⟨2, 80, none⟩)])) w := by kernel_rfl
theorem as_assE (w : World) : (ReflectliteType.relation "AssignableTo" ReflectliteType.assignableTo #[.agg #[.pointer (some ⟨2, 80, none⟩)], .iface 111 (.agg #[.pointer (some ⟨2, 80, none⟩)])]).run Tryd.prog w = .ok (.bool true) w := by kernel_rfl
theorem as_valueE (m : Int) (w : World) : (ReflectliteValue.unpack (.iface 80 (.agg #[.int .i64 m]))).run Tryd.prog w
    = .ok (.agg #[.pointer (some ⟨2, 80, none⟩), .pointer (some ⟨w.heap.size, 0, none⟩), .int .u64 153]) (w.alloc (.cells #[.int .i64 m] 80)) := by kernel_rfl
theorem as_elemOfP (w : World) : (Rtype.elem? 82).run Tryd.prog w = .ok (some 80) w := by kernel_rfl
theorem as_mkE (p : Addr) (w : World) : (ReflectliteValue.mk 80 p ReflectliteValue.flagAddr).run Tryd.prog w = .ok (.agg #[.pointer (some ⟨2, 80, none⟩), .pointer (some p), .int .u64 409]) w := by kernel_rfl
theorem as_elemV (a p : Addr) (W : World) (ha : W.cell? a = some (.pointer (some p))) :
    (ReflectliteValue.method (ReflectliteValue.valueError "reflectlite.Value.Elem" 0) ReflectliteValue.elem #[.agg #[.pointer (some ⟨2, 82, none⟩), .pointer (some a), .int .u64 150]]).run Tryd.prog W
      = .ok (.agg #[.pointer (some ⟨2, 80, none⟩), .pointer (some p), .int .u64 409]) W := by
  rw [as_rlm]
  simp only [Sem.run_bind, as_partsP, Result.andThen]
  simp [ReflectliteValue.elem, loadVar, isAgg, underlying, Tryd.underlying82, ha, Result.andThen, as_elemOfP, as_mkE]
theorem as_rls (v x : Value) : ReflectliteValue.set #[v, x] = (do
    let (some (dst, a, fl), some (src, b, _)) := (← ReflectliteValue.parts v, ← ReflectliteValue.parts x)
      | unsupported (.noEntry "extern/(internal/reflectlite.Value).Set.zeroValue")
    if fl / ReflectliteValue.flagAddr % 2 == 0 then unsupported (.noEntry "extern/(internal/reflectlite.Value).Set.unaddressable")
    let val ← loadVar src b
    if ← Rtype.directlyAssignable dst src then storeVar dst a val
    else if ← Rtype.implements dst src then
      if (← Rtype.kind src) == 20 then
        match val with
        | .nilIface => unsupported (.noEntry "extern/reflectlite: a nil value of one interface type handed on as a value of another")
        | _ => storeVar dst a val
      else storeVar dst a (.iface src val)
    else panicString ("reflectlite.Set: value of type " ++ (← Rtype.spelt src) ++ " is not assignable to type " ++ (← Rtype.spelt dst))
    pure (.tuple #[])) := rfl
theorem as_partsEa (a : Addr) (w : World) : (ReflectliteValue.parts (.agg #[.pointer (some ⟨2, 80, none⟩), .pointer (some a), .int .u64 409])).run Tryd.prog w = .ok (some (80, a, 409)) w := by kernel_rfl
theorem as_partsE (a : Addr) (w : World) : (ReflectliteValue.parts (.agg #[.pointer (some ⟨2, 80, none⟩), .pointer (some a), .int .u64 153])).run Tryd.prog w = .ok (some (80, a, 153)) w := by kernel_rfl
theorem as_directE (w : World) : (Rtype.directlyAssignable 80 80).run Tryd.prog w = .ok true w := by kernel_rfl
theorem as_isAggE (w : World) : (isAgg 80).run Tryd.prog w = .ok true w := by kernel_rfl
theorem as_sizeE (w : World) : (sizeOf 80).run Tryd.prog w = .ok 1 w := by kernel_rfl
theorem as_loadE (b : Nat) (m : Int) (W : World) (hb : W.cell? ⟨b, 0, none⟩ = some (.int .i64 m)) : (loadVar 80 ⟨b, 0, none⟩).run Tryd.prog W = .ok (.agg #[.int .i64 m]) W := by
  unfold loadVar
  simp only [Sem.run_bind, as_isAggE, Result.andThen, if_true, as_sizeE]
  simp [loadCells, loadCellsFrom, Addr.add, hb, Result.andThen]
theorem as_setE (ta b : Nat) (m : Int) (old : Value) (W : World) (hb : W.cell? ⟨b, 0, none⟩ = some (.int .i64 m)) (ht : W.cell? ⟨ta, 0, none⟩ = some old) (hf : W.frozen? ⟨ta, 0, none⟩ = false) :
    (ReflectliteValue.set #[.agg #[.pointer (some ⟨2, 80, none⟩), .pointer (some ⟨ta, 0, none⟩), .int .u64 409], .agg #[.pointer (some ⟨2, 80, none⟩), .pointer (some ⟨b, 0, none⟩), .int .u64 153]]).run Tryd.prog W
      = .ok (.tuple #[]) (W.setCell ⟨ta, 0, none⟩ (.int .i64 m)) := by
  rw [as_rls]
  simp only [Sem.run_bind, as_partsEa, as_partsE, Result.andThen]
  simp [ReflectliteValue.flagAddr, as_loadE b m W hb, Result.andThen, as_directE, storeVar, Value.cells, storeCells, Addr.add]
  rw [run_store Tryd.prog W ⟨ta, 0, none⟩ _ _ (by rfl)]
  simp [ht, hf]
set_option maxHeartbeats 8000000 in
theorem as_hit (m : Int) (t : Nat) (old : Value) (w : World) (hg : Ety w) (ht0 : w.cell? ⟨t, 0, none⟩ = some old) (hf0 : w.frozen? ⟨t, 0, none⟩ = false) :
    Calls Tryd.prog 78 #[.iface 80 (.agg #[.int .i64 m]), .iface 82 (.pointer (some ⟨t, 0, none⟩))] w fun ev w' => ev = .returned (.bool true) ∧ w' = ((((w.alloc (.cells #[.pointer (some ⟨t, 0, none⟩)] 82)).alloc (.cells #[.pointer (some ⟨2, 82, none⟩), .pointer (some ⟨w.heap.size, 0, none⟩), .int .u64 150] 97)).alloc (.cells #[.pointer (some ⟨2, 82, none⟩), .pointer (some ⟨w.heap.size, 0, none⟩), .int .u64 150] 97)).alloc (.cells #[.int .i64 m] 80)).setCell ⟨t, 0, none⟩ (.int .i64 m) := by
  unfold Ety at hg
  have h6 := @run_callFunc_extern Tryd.prog 104 _ (fun args => ReflectliteValue.unpack (args.getD 0 (.tuple #[]))) Tryd.func104 (by kernel_rfl) (by kernel_rfl) (by kernel_rfl) (by kernel_rfl)
  have h7 := @run_callFunc_extern Tryd.prog 105 _ (ReflectliteValue.methodAny (ReflectliteValue.valueError "reflectlite.Value.Type" 0) (fun t _ _ _ => ReflectliteType.toType t)) Tryd.func105 (by kernel_rfl) (by kernel_rfl) (by kernel_rfl) (by kernel_rfl)
  have h8 := @run_callFunc_extern Tryd.prog 106 _ (ReflectliteValue.method (ReflectliteValue.valueError "reflectlite.Value.IsNil" 0) ReflectliteValue.isNil) Tryd.func106 (by kernel_rfl) (by kernel_rfl) (by kernel_rfl) (by kernel_rfl)
  have h27 := @run_callFunc_extern Tryd.prog 133 _ (ReflectliteType.abiMethod fun t => do pure (.int .u8 (← Rtype.kind t))) Tryd.func133 (by kernel_rfl) (by kernel_rfl) (by kernel_rfl) (by kernel_rfl)
  have h37 := @run_callFunc_extern Tryd.prog 144 _ (ReflectliteType.method ReflectliteType.elem) Tryd.func144 (by kernel_rfl) (by kernel_rfl) (by kernel_rfl) (by kernel_rfl)
  have h38 := @run_callFunc_extern Tryd.prog 145 _ (ReflectliteType.relation "Implements" ReflectliteType.implements_) Tryd.func145 (by kernel_rfl) (by kernel_rfl) (by kernel_rfl) (by kernel_rfl)
  have h10 := @run_callFunc_extern Tryd.prog 114 _ ReflectliteType.typeOf Tryd.func114 (by kernel_rfl) (by kernel_rfl) (by kernel_rfl) (by kernel_rfl)
  have h35 := @run_callFunc_extern Tryd.prog 142 _ (ReflectliteType.relation "AssignableTo" ReflectliteType.assignableTo) Tryd.func142 (by kernel_rfl) (by kernel_rfl) (by kernel_rfl) (by kernel_rfl)
  have h11 := @run_callFunc_extern Tryd.prog 115 _ (ReflectliteValue.method (ReflectliteValue.valueError "reflectlite.Value.Elem" 0) ReflectliteValue.elem) Tryd.func115 (by kernel_rfl) (by kernel_rfl) (by kernel_rfl) (by kernel_rfl)
  have h12 := @run_callFunc_extern Tryd.prog 116 _ ReflectliteValue.set Tryd.func116 (by kernel_rfl) (by kernel_rfl) (by kernel_rfl) (by kernel_rfl)
  have tO := as_typeOfE
  have mA := as_mAss
  have a25 := as_assE
  have v25 := as_valueE
  have f6 := as_valueP
  have f7 := as_typeP
  have mK := as_mKind
  have mE := as_mElem
  have mI := as_mImpl
  have k27 := as_kindP
  have k25 := as_kindE
  have e27 := as_elemP
  have i25 := as_implE
  have n8 := as_isNilP ⟨w.heap.size, 0, none⟩ ⟨t, 0, none⟩ ((w.alloc (.cells #[.pointer (some ⟨t, 0, none⟩)] 82)).alloc (.cells #[.pointer (some ⟨2, 82, none⟩), .pointer (some ⟨w.heap.size, 0, none⟩), .int .u64 150] 97)) (by simp)
  have hlt : 0 < w.heap.size := block_lt_of_cell hg
  have hg2 : ((w.alloc (.cells #[.pointer (some ⟨t, 0, none⟩)] 82)).alloc (.cells #[.pointer (some ⟨2, 82, none⟩), .pointer (some ⟨w.heap.size, 0, none⟩), .int .u64 150] 97)).cell? ⟨0, 0, none⟩ = some (.iface 111 (.agg #[.pointer (some ⟨2, 76, none⟩)])) := by
    rw [World.cell?_alloc_lt _ _ ⟨0, 0, none⟩ (by simp <;> omega), World.cell?_alloc_lt _ _ ⟨0, 0, none⟩ hlt]; exact hg
  have htl : t < w.heap.size := block_lt_of_cell ht0
  have el := as_elemV ⟨w.heap.size, 0, none⟩ ⟨t, 0, none⟩ (((w.alloc (.cells #[.pointer (some ⟨t, 0, none⟩)] 82)).alloc (.cells #[.pointer (some ⟨2, 82, none⟩), .pointer (some ⟨w.heap.size, 0, none⟩), .int .u64 150] 97)).alloc (.cells #[.pointer (some ⟨2, 82, none⟩), .pointer (some ⟨w.heap.size, 0, none⟩), .int .u64 150] 97)) (by rw [World.cell?_alloc_lt _ _ ⟨w.heap.size, 0, none⟩ (by simp; omega)]; simp)
  have st := as_setE t (w.heap.size + 1 + 1 + 1) m old ((((w.alloc (.cells #[.pointer (some ⟨t, 0, none⟩)] 82)).alloc (.cells #[.pointer (some ⟨2, 82, none⟩), .pointer (some ⟨w.heap.size, 0, none⟩), .int .u64 150] 97)).alloc (.cells #[.pointer (some ⟨2, 82, none⟩), .pointer (some ⟨w.heap.size, 0, none⟩), .int .u64 150] 97)).alloc (.cells #[.int .i64 m] 80))
    (by rw [World.cell?_alloc_at _ _ _ _ (by simp)]; rfl)
    (by rw [World.cell?_alloc_lt _ _ ⟨t, 0, none⟩ (by simp; omega), World.cell?_alloc_lt _ _ ⟨t, 0, none⟩ (by simp; omega), World.cell?_alloc_lt _ _ ⟨t, 0, none⟩ (by simp; omega), World.cell?_alloc_lt _ _ ⟨t, 0, none⟩ htl]; exact ht0)
    (by rw [World.frozen?_alloc_old _ _ ⟨t, 0, none⟩ (by simp; omega), World.frozen?_alloc_old _ _ ⟨t, 0, none⟩ (by simp; omega), World.frozen?_alloc_old _ _ ⟨t, 0, none⟩ (by simp; omega), World.frozen?_alloc_old _ _ ⟨t, 0, none⟩ (Nat.ne_of_lt htl)]; exact hf0)
  go_enter Tryd.func78, Tryd.ntmps78
  go_wp2
  refine wp_loop_rounds 1 ?_
  rw [rounds_succ]
  go_wp2
  go_ret
  exact ⟨rfl, rfl⟩
end Go.Proofs.YtangofjpnhhfeabDoor
namespace Go.Proofs.YtangofjpnhhfeabDoor
open Go.ChangeShapes Go.WideShapes Go.ChangeAt Go.RowKit

theorem own : ownKnob Tryd.prog.godebug = none := by kernel_rfl
theorem gTab : Tryd.prog.globalNamed "loop.example/g00710/impl.fieldTable" = some 1 := by kernel_rfl
theorem gTabType : (Tryd.prog.globals[1]?).map (·.type) = some 109 := by kernel_rfl
theorem cells60 : Tryd.prog.cellsOf 109 = 27 := by kernel_rfl
theorem cells59 : Tryd.prog.cellsOf 108 = 3 := by kernel_rfl
theorem cells3 : Tryd.prog.cellsOf 3 = 1 := by kernel_rfl
theorem cells4 : Tryd.prog.cellsOf 4 = 1 := by kernel_rfl
theorem cells5 : Tryd.prog.cellsOf 5 = 1 := by kernel_rfl
def tabCells : Array Value := #[.int .i64 17, .int .i64 3, .int .i64 4, .int .i64 97, .int .i64 5, .int .i64 5, .int .i64 193, .int .i64 5, .int .i64 6, .int .i64 257, .int .i64 3, .int .i64 8, .int .i64 7681, .int .i64 17, .int .i64 9, .int .i64 12289, .int .i64 11, .int .i64 12, .int .i64 998244353, .int .i64 3, .int .i64 23, .int .i64 469762049, .int .i64 3, .int .i64 26, .int .i64 1004535809, .int .i64 3, .int .i64 21]
set_option maxRecDepth 100000 in
theorem trod3 {H : Type} {enc : TypeId × Value → H} {w : World} {base : Nat} {spare : Nat → Bool} {held : Bool} {fuel : Nat} {c : List Value} {a b d : Int} {ps : List MemPlace}
    (h : DataW.trod enc Tryd.prog w base spare held fuel 108 c = some (.agg [.lit (.int .i64 a), .lit (.int .i64 b), .lit (.int .i64 d)], ps)) : c = [.int .i64 a, .int .i64 b, .int .i64 d] := by
  obtain ⟨y0, y1, y2, n, e, hl, h0, h1, h2⟩ := Deep.trod_struct3 Tryd.underlying108 h
  rw [cells59] at hl
  match c, hl with
  | [x, y, z], _ =>
    simp only [cells3] at h0 h1 h2
    obtain ⟨a', e0, rfl, _⟩ := DataW.trod_int Tryd.underlying3 h0
    obtain ⟨b', e1, rfl, _⟩ := DataW.trod_int Tryd.underlying3 h1
    obtain ⟨d', e2, rfl, _⟩ := DataW.trod_int Tryd.underlying3 h2
    simp at e e0 e1 e2
    obtain ⟨⟨rfl, rfl, rfl⟩, _⟩ := e
    rw [e0, e1, e2]
theorem cut3 {l a : List Value} (h : l.take 3 = a) : l = a ++ l.drop 3 := by rw [← h, List.take_append_drop]
set_option maxRecDepth 100000 in
theorem table_cells {W : World} {fuel : Nat} {cs : Array Value} {p : List MemPlace}
    (h : DataW.trod (fun _ => ()) Tryd.prog W 0 (fun _ => true) false fuel 109 cs.toList = some (Rows.laid_loop_example_g00710_impl_fieldTable, p)) : cs = tabCells := by
  obtain ⟨xs, m, _, e, hl, hn, hx⟩ := DataW.trod_array Tryd.underlying109 h
  rw [cells60] at hl
  simp only [cells59] at hx
  unfold Rows.laid_loop_example_g00710_impl_fieldTable at e
  simp only [Prod.mk.injEq, DataW.agg.injEq] at e
  have e1 := e.1
  match xs, hn with
  | [x0, x1, x2, x3, x4, x5, x6, x7, x8], _ =>
    simp only [List.map_cons, List.map_nil, List.cons.injEq, and_true] at e1
    obtain ⟨f0, f1, f2, f3, f4, f5, f6, f7, f8⟩ := e1
    have g0 := cut3 (trod3 (ps := x0.2) ((hx 0 (by decide)).trans (by show some x0 = _; rw [f0])))
    have g1 := cut3 (trod3 (ps := x1.2) ((hx 1 (by decide)).trans (by show some x1 = _; rw [f1])))
    have g2 := cut3 (trod3 (ps := x2.2) ((hx 2 (by decide)).trans (by show some x2 = _; rw [f2])))
    have g3 := cut3 (trod3 (ps := x3.2) ((hx 3 (by decide)).trans (by show some x3 = _; rw [f3])))
    have g4 := cut3 (trod3 (ps := x4.2) ((hx 4 (by decide)).trans (by show some x4 = _; rw [f4])))
    have g5 := cut3 (trod3 (ps := x5.2) ((hx 5 (by decide)).trans (by show some x5 = _; rw [f5])))
    have g6 := cut3 (trod3 (ps := x6.2) ((hx 6 (by decide)).trans (by show some x6 = _; rw [f6])))
    have g7 := cut3 (trod3 (ps := x7.2) ((hx 7 (by decide)).trans (by show some x7 = _; rw [f7])))
    have g8 := cut3 (trod3 (ps := x8.2) ((hx 8 (by decide)).trans (by show some x8 = _; rw [f8])))
    simp only [List.drop_drop, Nat.zero_mul, List.drop_zero, Nat.one_mul] at g0 g1 g2 g3 g4 g5 g6 g7 g8
    have ez : List.drop (8 * 3 + 3) cs.toList = [] := List.drop_of_length_le (by rw [hl]; decide)
    apply Array.toList_inj.1
    rw [g0, g1, g2, g3, g4, g5, g6, g7, g8, ez]
    rfl
theorem table_var {W : World} (h : laidMetH Tryd.prog [("loop.example/g00710/impl.fieldTable", Rows.laid_loop_example_g00710_impl_fieldTable)] W) : W.var? Tryd.prog "loop.example/g00710/impl.fieldTable" = some tabCells := by
  have h' : laidMet Tryd.prog [("loop.example/g00710/impl.fieldTable", Rows.laid_loop_example_g00710_impl_fieldTable)] W := h
  obtain ⟨ps, ⟨g, t, cs, fuel, p, q, h1, h2, h3, h4, _⟩, _⟩ := h'
  obtain rfl : 1 = g := Option.some.inj (gTab.symm.trans h1)
  obtain rfl : 109 = t := Option.some.inj (gTabType.symm.trans h2)
  rw [h3, table_cells h4]
theorem var_cell {W : World} (h : W.var? Tryd.prog "loop.example/g00710/impl.fieldTable" = some tabCells) (i : Nat) : W.cell? ⟨1, i, none⟩ = tabCells[i]? := by
  simp only [World.var?, gTab, Option.bind_some] at h
  unfold World.cell?
  split at h
  · rename_i cs _ _ e
    cases h
    simp [e]
  · cases h
theorem tab_of {W : World} (h : W.var? Tryd.prog "loop.example/g00710/impl.fieldTable" = some tabCells) : Tab W := by
  intro n h0 h8
  simp only [var_cell h]
  rcases nine h0 h8 with rfl | rfl | rfl | rfl | rfl | rfl | rfl | rfl | rfl <;> exact ⟨rfl, rfl, rfl⟩
theorem var_size {W : World} (h : W.var? Tryd.prog "loop.example/g00710/impl.fieldTable" = some tabCells) : 1 < W.heap.size := by
  simp only [World.var?, gTab, Option.bind_some] at h
  split at h
  · rename_i e
    exact (Array.getElem?_eq_some_iff.1 e).1
  · cases h
theorem tab_trod {H : Type} (enc : TypeId × Value → H) (W : World) (sp : Nat → Bool) : DataW.trod enc Tryd.prog W 0 sp true 8 109 tabCells.toList = some (Rows.laid_loop_example_g00710_impl_fieldTable, []) := by kernel_rfl
theorem tab_vars {H : Type} (enc : TypeId × Value → H) {W : World} (sp : Nat → Bool) (h : W.var? Tryd.prog "loop.example/g00710/impl.fieldTable" = some tabCells) :
    DataW.TrodVars enc Tryd.prog W sp ["loop.example/g00710/impl.fieldTable"] [Rows.laid_loop_example_g00710_impl_fieldTable] (MemPlace.row ⟨1, 0, none⟩ 27 ++ []) :=
  trodVars_mk1 gTab gTabType h (tab_trod enc W sp)
/-- A world for the witness: the settled one, the table (block 0) holding what its initialiser lays. -/
noncomputable def laidWorld (os : Os) : World :=
  { World.holding Tryd.prog os ⟨#[], #[], []⟩ with heap := (World.holding Tryd.prog os ⟨#[], #[], []⟩).heap.modify 1 fun
      | .cells _ t frozen => .cells tabCells t frozen
      | o => o }
theorem below_var {W W' : World} (hb : Below W.heap.size W W') (h : W.var? Tryd.prog "loop.example/g00710/impl.fieldTable" = some tabCells) : W'.var? Tryd.prog "loop.example/g00710/impl.fieldTable" = some tabCells :=
  var?_below hb gTab (var_size h) h
theorem et_glob : Tryd.prog.globalNamed "errors.errorType" = some 0 := by kernel_rfl
theorem et_rt : (Tryd.prog.cutTypes.find? (·.1 == "internal/reflectlite.rtype")).map (·.2) = some 111 := by kernel_rfl
theorem et_row : ((List.range Tryd.prog.types.size).filter fun t => Tryd.prog.rowNamed t [101, 114, 114, 111, 114]) = [76] := by kernel_rfl
theorem laid_both {W : World} (h : laidMetH Tryd.prog [("errors.errorType", Rows.laid_errors_errorType), ("loop.example/g00710/impl.fieldTable", Rows.laid_loop_example_g00710_impl_fieldTable)] W) : laidMet Tryd.prog [("loop.example/g00710/impl.fieldTable", Rows.laid_loop_example_g00710_impl_fieldTable)] W ∧ handlesMet Tryd.prog [("errors.errorType", Rows.laid_errors_errorType)] W := h
theorem table_var2 {W : World} (h : laidMetH Tryd.prog [("errors.errorType", Rows.laid_errors_errorType), ("loop.example/g00710/impl.fieldTable", Rows.laid_loop_example_g00710_impl_fieldTable)] W) : W.var? Tryd.prog "loop.example/g00710/impl.fieldTable" = some tabCells := by
  have h1 : laidMetH Tryd.prog [("loop.example/g00710/impl.fieldTable", Rows.laid_loop_example_g00710_impl_fieldTable)] W := (laid_both h).1
  exact table_var h1
theorem ety_of {W : World} (h : laidMetH Tryd.prog [("errors.errorType", Rows.laid_errors_errorType), ("loop.example/g00710/impl.fieldTable", Rows.laid_loop_example_g00710_impl_fieldTable)] W) : Ety W := by
  obtain ⟨name, u, ty, e1, e2, e3, e4, e5⟩ := (laid_both h).2 _ (List.mem_singleton.2 rfl)
  have en : name = [101, 114, 114, 111, 114] := (Option.some.inj e1).symm
  subst en
  obtain rfl := Option.some.inj (et_rt.symm.trans e2)
  have hm : ty ∈ (List.range Tryd.prog.types.size).filter fun t => Tryd.prog.rowNamed t [101, 114, 114, 111, 114] := List.mem_filter.2 ⟨List.mem_range.2 e3, e4⟩
  rw [et_row] at hm
  obtain rfl := List.mem_singleton.1 hm
  have hh : typeHandle Tryd.prog 76 = .pointer (some ⟨2, 76, none⟩) := by kernel_rfl
  rw [hh] at e5
  unfold Ety
  simpa using World.var?_cell et_glob e5 0
noncomputable def laidWorld2 (os : Os) : World :=
  { laidWorld os with heap := (laidWorld os).heap.modify 0 fun
      | .cells _ t frozen => .cells #[.iface 111 (.agg #[.pointer (some ⟨2, 76, none⟩)])] t frozen
      | o => o }
end Go.Proofs.YtangofjpnhhfeabDoor
namespace Go.Proofs.YtangofjpnhhfeabDoor
set_option maxRecDepth 100000
theorem both {a b : Bool} (h : a = true) (k : b = true) : (a && b) = true := by rw [h, k]; rfl
theorem f_laidOut : laidOutB Tryd.prog = true := by kernel_rfl
theorem f_mapsRowed : mapsRowed Tryd.prog = true := by kernel_rfl
theorem f_stops : (Tryd.prog.stops == []) = true := by kernel_rfl
theorem f_knobs : (Tryd.prog.stopKnobs == []) = true := by kernel_rfl
theorem f_keys : (Rows.fnExactDecodeWordRow.plainKeys == Tryd.prog.plainKeys) = true := by kernel_rfl
theorem f_heard : Tryd.prog.stopsHeard = true := by kernel_rfl
theorem f_looks : true = Tryd.prog.looks [] := by kernel_rfl
def headSigns : List Char := [Char.ofNat 104, Char.ofNat 97, Char.ofNat 114, Char.ofNat 110, Char.ofNat 101, Char.ofNat 115, Char.ofNat 115, Char.ofNat 32, Char.ofNat 97, Char.ofNat 51, Char.ofNat 57, Char.ofNat 55, Char.ofNat 54, Char.ofNat 57, Char.ofNat 53, Char.ofNat 57, Char.ofNat 102, Char.ofNat 101, Char.ofNat 53, Char.ofNat 54, Char.ofNat 51, Char.ofNat 50, Char.ofNat 49, Char.ofNat 52, Char.ofNat 54, Char.ofNat 57, Char.ofNat 98, Char.ofNat 48, Char.ofNat 51, Char.ofNat 55, Char.ofNat 57, Char.ofNat 98, Char.ofNat 54, Char.ofNat 49, Char.ofNat 56, Char.ofNat 101, Char.ofNat 101, Char.ofNat 57, Char.ofNat 98, Char.ofNat 48, Char.ofNat 53, Char.ofNat 48, Char.ofNat 50, Char.ofNat 49, Char.ofNat 99, Char.ofNat 55, Char.ofNat 49, Char.ofNat 48, Char.ofNat 53, Char.ofNat 52, Char.ofNat 101, Char.ofNat 50, Char.ofNat 51, Char.ofNat 57, Char.ofNat 57, Char.ofNat 57, Char.ofNat 48, Char.ofNat 56, Char.ofNat 51, Char.ofNat 98, Char.ofNat 57, Char.ofNat 52, Char.ofNat 101, Char.ofNat 57, Char.ofNat 100, Char.ofNat 99, Char.ofNat 48, Char.ofNat 56, Char.ofNat 99, Char.ofNat 102, Char.ofNat 99, Char.ofNat 53, Char.ofNat 32, Char.ofNat 99, Char.ofNat 117, Char.ofNat 116, Char.ofNat 32, Char.ofNat 97, Char.ofNat 116, Char.ofNat 32, Char.ofNat 108, Char.ofNat 111, Char.ofNat 111, Char.ofNat 112, Char.ofNat 46, Char.ofNat 101, Char.ofNat 120, Char.ofNat 97, Char.ofNat 109, Char.ofNat 112, Char.ofNat 108, Char.ofNat 101, Char.ofNat 47, Char.ofNat 103, Char.ofNat 48, Char.ofNat 48, Char.ofNat 55, Char.ofNat 49, Char.ofNat 48, Char.ofNat 47, Char.ofNat 108, Char.ofNat 97, Char.ofNat 119, Char.ofNat 115, Char.ofNat 46, Char.ofNat 70, Char.ofNat 110, Char.ofNat 69, Char.ofNat 120, Char.ofNat 97, Char.ofNat 99, Char.ofNat 116, Char.ofNat 68, Char.ofNat 101, Char.ofNat 99, Char.ofNat 111, Char.ofNat 100, Char.ofNat 101, Char.ofNat 87, Char.ofNat 111, Char.ofNat 114, Char.ofNat 100, Char.ofNat 32, Char.ofNat 108, Char.ofNat 111, Char.ofNat 111, Char.ofNat 112, Char.ofNat 46, Char.ofNat 101, Char.ofNat 120, Char.ofNat 97, Char.ofNat 109, Char.ofNat 112, Char.ofNat 108, Char.ofNat 101, Char.ofNat 47, Char.ofNat 103, Char.ofNat 48, Char.ofNat 48, Char.ofNat 55, Char.ofNat 49, Char.ofNat 48, Char.ofNat 47, Char.ofNat 108, Char.ofNat 97, Char.ofNat 119, Char.ofNat 115, Char.ofNat 46, Char.ofNat 70, Char.ofNat 110, Char.ofNat 69, Char.ofNat 120, Char.ofNat 97, Char.ofNat 99, Char.ofNat 116, Char.ofNat 66, Char.ofNat 108, Char.ofNat 97, Char.ofNat 109, Char.ofNat 101, Char.ofNat 32, Char.ofNat 108, Char.ofNat 111, Char.ofNat 111, Char.ofNat 112, Char.ofNat 46, Char.ofNat 101, Char.ofNat 120, Char.ofNat 97, Char.ofNat 109, Char.ofNat 112, Char.ofNat 108, Char.ofNat 101, Char.ofNat 47, Char.ofNat 103, Char.ofNat 48, Char.ofNat 48, Char.ofNat 55, Char.ofNat 49, Char.ofNat 48, Char.ofNat 47, Char.ofNat 108, Char.ofNat 97, Char.ofNat 119, Char.ofNat 115, Char.ofNat 46, Char.ofNat 70, Char.ofNat 110, Char.ofNat 69, Char.ofNat 120, Char.ofNat 97, Char.ofNat 99, Char.ofNat 116, Char.ofNat 68, Char.ofNat 101, Char.ofNat 99, Char.ofNat 111, Char.ofNat 100, Char.ofNat 101, Char.ofNat 71, Char.ofNat 97, Char.ofNat 112, Char.ofNat 115, Char.ofNat 32, Char.ofNat 108, Char.ofNat 111, Char.ofNat 111, Char.ofNat 112, Char.ofNat 46, Char.ofNat 101, Char.ofNat 120, Char.ofNat 97, Char.ofNat 109, Char.ofNat 112, Char.ofNat 108, Char.ofNat 101, Char.ofNat 47, Char.ofNat 103, Char.ofNat 48, Char.ofNat 48, Char.ofNat 55, Char.ofNat 49, Char.ofNat 48, Char.ofNat 47, Char.ofNat 108, Char.ofNat 97, Char.ofNat 119, Char.ofNat 115, Char.ofNat 46, Char.ofNat 70, Char.ofNat 110, Char.ofNat 73, Char.ofNat 110, Char.ofNat 116, Char.ofNat 101, Char.ofNat 114, Char.ofNat 112, Char.ofNat 111, Char.ofNat 108, Char.ofNat 97, Char.ofNat 116, Char.ofNat 101, Char.ofNat 66, Char.ofNat 97, Char.ofNat 99, Char.ofNat 107, Char.ofNat 32, Char.ofNat 108, Char.ofNat 111, Char.ofNat 111, Char.ofNat 112, Char.ofNat 46, Char.ofNat 101, Char.ofNat 120, Char.ofNat 97, Char.ofNat 109, Char.ofNat 112, Char.ofNat 108, Char.ofNat 101, Char.ofNat 47, Char.ofNat 103, Char.ofNat 48, Char.ofNat 48, Char.ofNat 55, Char.ofNat 49, Char.ofNat 48, Char.ofNat 47, Char.ofNat 108, Char.ofNat 97, Char.ofNat 119, Char.ofNat 115, Char.ofNat 46, Char.ofNat 70, Char.ofNat 110, Char.ofNat 87, Char.ofNat 101, Char.ofNat 105, Char.ofNat 103, Char.ofNat 104, Char.ofNat 116, Char.ofNat 115, Char.ofNat 32, Char.ofNat 108, Char.ofNat 111, Char.ofNat 111, Char.ofNat 112, Char.ofNat 46, Char.ofNat 101, Char.ofNat 120, Char.ofNat 97, Char.ofNat 109, Char.ofNat 112, Char.ofNat 108, Char.ofNat 101, Char.ofNat 47, Char.ofNat 103, Char.ofNat 48, Char.ofNat 48, Char.ofNat 55, Char.ofNat 49, Char.ofNat 48, Char.ofNat 47, Char.ofNat 108, Char.ofNat 97, Char.ofNat 119, Char.ofNat 115, Char.ofNat 46, Char.ofNat 70, Char.ofNat 110, Char.ofNat 68, Char.ofNat 101, Char.ofNat 99, Char.ofNat 111, Char.ofNat 100, Char.ofNat 101, Char.ofNat 66, Char.ofNat 101, Char.ofNat 110, Char.ofNat 116, Char.ofNat 32, Char.ofNat 108, Char.ofNat 111, Char.ofNat 111, Char.ofNat 112, Char.ofNat 46, Char.ofNat 101, Char.ofNat 120, Char.ofNat 97, Char.ofNat 109, Char.ofNat 112, Char.ofNat 108, Char.ofNat 101, Char.ofNat 47, Char.ofNat 103, Char.ofNat 48, Char.ofNat 48, Char.ofNat 55, Char.ofNat 49, Char.ofNat 48, Char.ofNat 47, Char.ofNat 108, Char.ofNat 97, Char.ofNat 119, Char.ofNat 115, Char.ofNat 46, Char.ofNat 70, Char.ofNat 110, Char.ofNat 71, Char.ofNat 97, Char.ofNat 112, Char.ofNat 115]
theorem init_is : Tryd.prog.initOrder = String.ofList headSigns := by kernel_rfl
theorem init_list : Tryd.prog.initOrder.toList = headSigns := by rw [init_is]; exact String.toList_ofList
theorem ws_word (a : List Char) (h : ∀ c, c ∈ a → c ≠ Char.ofNat 32) (r : List Char) : wordsSigns (a ++ Char.ofNat 32 :: r) = a :: wordsSigns r := by
  induction a with
  | nil => rfl
  | cons c a ih =>
    have hc : c ≠ Char.ofNat 32 := h c List.mem_cons_self
    have ih' := ih (fun c hc => h c (List.mem_cons_of_mem _ hc))
    show wordsSigns (c :: (a ++ Char.ofNat 32 :: r)) = (c :: a) :: wordsSigns r
    generalize wordsSigns r = t at *
    rw [wordsSigns, ih']
    intro e; exact hc e
def headA : List Char := headSigns.take 7
def headB : List Char := (headSigns.drop 8).take 64
def headC : List Char := (headSigns.drop 73).take 3
def headRest : List Char := headSigns.drop 77
theorem head_split : headSigns = headA ++ Char.ofNat 32 :: (headB ++ Char.ofNat 32 :: (headC ++ Char.ofNat 32 :: headRest)) := by kernel_rfl
theorem head_words : wordsSigns Tryd.prog.initOrder.toList = headA :: headB :: headC :: wordsSigns headRest := by
  rw [init_list, head_split, ws_word _ (by decide +kernel), ws_word _ (by decide +kernel), ws_word _ (by decide +kernel)]
theorem sum_is : "a3976959fe56321469b0379b618ee9b05021c71054e23999083b94e9dc08cfc5" = String.ofList headB := by kernel_rfl
theorem sum_list : "a3976959fe56321469b0379b618ee9b05021c71054e23999083b94e9dc08cfc5".toList = headB := by rw [sum_is]; exact String.toList_ofList
theorem behind_of (R : List (List Char)) : behindMainWord (headA :: headB :: headC :: R) = headC :: R := by kernel_rfl
theorem strip_of (R : List (List Char)) : stripLifts liftWords (headC :: R) = ([], headC :: R) := by kernel_rfl
section
variable {P : Program} {R : List (List Char)} (hw : wordsSigns P.initOrder.toList = headA :: headB :: headC :: R)
include hw
theorem main_gen : P.mainIs = some (true, headB) := by
  unfold Program.mainIs
  rw [hw]
  kernel_rfl
theorem lifts_gen : P.headLifts = [] := by
  unfold Program.headLifts
  rw [hw, behind_of, strip_of]
  kernel_rfl
theorem final_gen : P.liftsFinal = false := by
  unfold Program.liftsFinal
  rw [lifts_gen hw, hw, behind_of]
  kernel_rfl
theorem make_gen : P.make = some .cut := by
  unfold Program.make
  rw [lifts_gen hw, hw, behind_of]
  kernel_rfl
theorem enter_gen (hl : P.laysLater = false) (hr : P.bearsReflect = false) (hd : P.doorFits [] = true) : P.mayEnter = true := by
  unfold Program.mayEnter
  rw [hw, behind_of]
  dsimp only
  rw [strip_of, hl, hr]
  dsimp only
  rw [hd]
  kernel_rfl
end
theorem f_main : Tryd.prog.mainIs = some (true, "a3976959fe56321469b0379b618ee9b05021c71054e23999083b94e9dc08cfc5".toList) := (main_gen head_words).trans (congrArg (fun l => some (true, l)) sum_list.symm)
theorem f_lays : Tryd.prog.laysLater = false := by kernel_rfl
theorem f_refl : Tryd.prog.bearsReflect = false := by kernel_rfl
theorem f_door : Tryd.prog.doorFits [] = true := by kernel_rfl
theorem f_enter : Tryd.prog.mayEnter = true := enter_gen head_words f_lays f_refl f_door
theorem f_lifts : (Rows.fnExactDecodeWordRow.lifted == Tryd.prog.liftsFinal) = true := by
  rw [final_gen head_words]
  kernel_rfl
theorem f_make : (Tryd.prog.make == some Rows.fnExactDecodeWordRow.make) = true := by
  rw [make_gen head_words]
  kernel_rfl
end Go.Proofs.YtangofjpnhhfeabDoor
namespace Go.Proofs.YtangofjpnhhfeabDoor
open Go.RowKit
theorem wpList_copy_pad {w : World} {ops : Array Oper} {rest : List Oper} {o : Oper} {a : Act} {Q : Exit → Act → World → Prop} (hgd : o.guard = none) (d s : Operand)
    (ho : o.op = .call { callee := .builtin .copy, args := #[d, s], argTypes := #[22, 22] }) (N m cap1 cap2 : Nat) (a2 : Option Addr) (F : Nat → Int)
    (hd : a.eval d = .slice (some ⟨w.heap.size, 0, none⟩) N cap1) (hs : a.eval s = .slice a2 m cap2) (hmN : m ≤ N) (hsrc : Src w a2 m F)
    (h : ∀ w', Hid (Own w' w.heap.size N (fun j => if 0 ≤ j ∧ j < 0 + m then F (j - 0) else 0)) → Below w.heap.size w w' → wpList Tryd.prog ops Q rest (a.put o.dst (goInt m)) w') :
    wpList Tryd.prog ops Q (o :: rest) a (w.alloc (.cells (madeCells #[.int .i64 0] N) 3)) := by
  refine wpList_copy_splice hgd d s 22 22 ho 3 Tryd.underlying22 size3 (some ⟨w.heap.size, 0, none⟩) a2 N cap1 m cap2 hd hs w.heap.size 0 (madeCells #[.int .i64 0] N).toList 3 (by unfold World.alloc; simp) (xsF F m) (by rw [xsF_len]; exact (Nat.min_eq_left hmN).symm) ?_ (by rw [xsF_len, made_len]; omega) xsF_one w.heap.size w ((Below.refl _ _).alloc (Nat.le_refl _) _) (Nat.le_refl _) (fun w' hg hb => ?_)
  · intro hpos
    rw [xsF_len] at hpos
    refine ⟨rfl, ?_⟩
    rcases hsrc with hz | ⟨b, off2, rfl, hlt, hc⟩
    · omega
    · refine ⟨_, rfl, fun j v hv => ?_⟩
      obtain ⟨hj, rfl⟩ := xsF_at hv
      rw [add_at]
      exact (((Below.refl _ w).alloc (Nat.le_refl _) _).cell (p := ⟨b, off2 + j, none⟩) hlt).trans (hc j (by omega))
  · rw [xsF_len]
    exact h w' (Lib.hid (own_splice (by omega) hg.out)) hb
theorem padded_c (a : Option Addr) (l : List Int) (cap N : Nat) (w : World) (hl : l.length ≤ N) (hN : N ≤ 1048576) (hs : Src w a l.length (lf l)) : Calls Tryd.prog 91 #[.slice a l.length cap, .int .i64 N] w (OwnG w (padL l N)) := by
  have hmk := made_n N hN
  have HS := Lib.hid hs
  have HO : Hid (∀ w', Own w' w.heap.size N (fun j => if j < l.length then lf l j else 0) → Below w.heap.size w w' → OwnG w (padL l N) (.returned (.slice (some ⟨w.heap.size, 0, none⟩) N N)) w') := Lib.hid fun w' ho hb => OwnG.of_own ho (padL_len l N).symm (Nat.le_refl _) (fun j hj => by
    unfold padL
    rw [lf_tab, if_pos hj]
    by_cases hjl : j < l.length
    · rw [if_pos hjl]
    · rw [if_neg hjl, lf_out l (by omega)]) hb
  clear hs
  go_enter Tryd.func91, Tryd.ntmps91
  go_wp2_with (with_reducible refine wpList_copy_pad rfl _ _ rfl N l.length N cap _ (lf l) rfl rfl hl HS.out ?_)
  intro w2 H2 hb
  have HR := Lib.hid (HO.out w2 H2.out hb)
  clear hmk H2 HO
  go_wp2
  go_ret
  exact HR.out
end Go.Proofs.YtangofjpnhhfeabDoor
namespace Go.Proofs.YtangofjpnhhfeabDoor
open Go.RowKit
/-- A node at block b: its field, its product at block g, its branches. -/
def NodeW (w : World) (b : Nat) (f : Int) (g n : Nat) (pl pr : Option Addr) : Prop :=
  w.cell? ⟨b, 0, none⟩ = some (.int .i64 f) ∧ w.cell? ⟨b, 1, none⟩ = some (.slice (some ⟨g, 0, none⟩) (n + 1) (n + 1)) ∧ w.cell? ⟨b, 2, none⟩ = some (.pointer pl) ∧ w.cell? ⟨b, 3, none⟩ = some (.pointer pr)
theorem NodeW.lt {w : World} {b g n : Nat} {f : Int} {pl pr : Option Addr} (h : NodeW w b f g n pl pr) : b < w.heap.size := block_lt_of_cell h.1
theorem NodeW.keep {w w' : World} {b g n : Nat} {f : Int} {pl pr : Option Addr} (h : NodeW w b f g n pl pr) {N : Nat} (hb : Below N w w') (hN : b < N) : NodeW w' b f g n pl pr :=
  ⟨(hb.cell (p := ⟨b, 0, none⟩) hN).trans h.1, (hb.cell (p := ⟨b, 1, none⟩) hN).trans h.2.1, (hb.cell (p := ⟨b, 2, none⟩) hN).trans h.2.2.1, (hb.cell (p := ⟨b, 3, none⟩) hN).trans h.2.2.2⟩
/-- A tree over the points X 0, .., X (n - 1), at p; d bounds its depth. -/
def TreeW (f : Int) (w : World) : Nat → Option Addr → (Nat → Int) → Nat → Prop
  | 0, _, _, _ => False
  | d + 1, p, X, n => ∃ b g pl pr, p = some ⟨b, 0, none⟩ ∧ NodeW w b f g n pl pr ∧ Own w g (n + 1) (lf (vanL f X n)) ∧
      ((n = 1 ∧ pl = none ∧ pr = none) ∨ ∃ m k, n = m + k ∧ 1 ≤ m ∧ 1 ≤ k ∧ TreeW f w d pl X m ∧ TreeW f w d pr (fun j => X (m + j)) k)
theorem TreeW.keep {f : Int} {w w' : World} (hb : Below w.heap.size w w') : ∀ {d : Nat} {p : Option Addr} {X : Nat → Int} {n : Nat}, TreeW f w d p X n → TreeW f w' d p X n
  | 0, _, _, _, h => h
  | _ + 1, _, _, _, ⟨b, g, pl, pr, h1, h2, h3, h4⟩ => ⟨b, g, pl, pr, h1, h2.keep hb h2.lt, h3.keep hb, h4.imp id fun ⟨m, k, e, m1, k1, hl, hr⟩ => ⟨m, k, e, m1, k1, TreeW.keep hb hl, TreeW.keep hb hr⟩⟩
theorem TreeW.more {f : Int} {w : World} : ∀ {d d' : Nat} {p : Option Addr} {X : Nat → Int} {n : Nat}, TreeW f w d p X n → d ≤ d' → TreeW f w d' p X n
  | 0, _, _, _, _, h, _ => absurd h (by intro h; exact h)
  | d + 1, 0, _, _, _, _, h2 => absurd h2 (by omega)
  | d + 1, d' + 1, _, _, _, ⟨b, g, pl, pr, h1, h2, h3, h4⟩, hd => ⟨b, g, pl, pr, h1, h2, h3, h4.imp id fun ⟨m, k, e, m1, k1, hl, hr⟩ => ⟨m, k, e, m1, k1, hl.more (by omega), hr.more (by omega)⟩⟩
/-- What the tree's maker answers: a tree whose product is its own. -/
def TreeR (f : Int) (n : Nat) (F : Nat → Int) (w : World) (e : Ending) (w' : World) : Prop :=
  ∃ b g pl pr, e = .returned (.pointer (some ⟨b, 0, none⟩)) ∧ w.heap.size ≤ g ∧ NodeW w' b f g n pl pr ∧ Own w' g (n + 1) (lf (vanL f F n)) ∧ TreeW f w' n (some ⟨b, 0, none⟩) F n ∧ Below w.heap.size w w'
theorem node_new (W : World) (f : Int) (g n : Nat) (pl pr : Option Addr) : NodeW (W.alloc (.cells #[.int .i64 f, .slice (some ⟨g, 0, none⟩) (n + 1) (n + 1), .pointer pl, .pointer pr] 66)) W.heap.size f g n pl pr := by
  refine ⟨?_, ?_, ?_, ?_⟩ <;> rw [World.cell?_alloc_at _ _ _ _ rfl] <;> rfl
theorem TreeR.leaf {f : Int} {F : Nat → Int} {w W : World} {g : Nat} (hg : w.heap.size ≤ g) (ho : Own W g 2 (lf (vanL f F 1))) (hb : Below w.heap.size w W) :
    TreeR f 1 F w (.returned (.pointer (some ⟨W.heap.size, 0, none⟩))) (W.alloc (.cells #[.int .i64 f, .slice (some ⟨g, 0, none⟩) 2 2, .pointer none, .pointer none] 66)) := by
  have hk : Below W.heap.size W (W.alloc (.cells #[.int .i64 f, .slice (some ⟨g, 0, none⟩) 2 2, .pointer none, .pointer none] 66)) := (Below.refl _ _).alloc (Nat.le_refl _) _
  have hn := node_new W f g 1 none none
  exact ⟨_, g, none, none, rfl, hg, hn, ho.keep hk, ⟨_, g, none, none, rfl, hn, ho.keep hk, .inl ⟨rfl, rfl, rfl⟩⟩, hb.alloc hb.size _⟩
theorem TreeR.node {f : Int} {F : Nat → Int} {w W : World} {g m k : Nat} {pl pr : Option Addr} (m1 : 1 ≤ m) (k1 : 1 ≤ k) (hg : w.heap.size ≤ g) (ho : Own W g (m + k + 1) (lf (vanL f F (m + k)))) (hl : TreeW f W m pl F m) (hr : TreeW f W k pr (fun j => F (m + j)) k) (hb : Below w.heap.size w W) :
    TreeR f (m + k) F w (.returned (.pointer (some ⟨W.heap.size, 0, none⟩))) (W.alloc (.cells #[.int .i64 f, .slice (some ⟨g, 0, none⟩) (m + k + 1) (m + k + 1), .pointer pl, .pointer pr] 66)) := by
  have hk : Below W.heap.size W (W.alloc (.cells #[.int .i64 f, .slice (some ⟨g, 0, none⟩) (m + k + 1) (m + k + 1), .pointer pl, .pointer pr] 66)) := (Below.refl _ _).alloc (Nat.le_refl _) _
  have hn := node_new W f g (m + k) pl pr
  refine ⟨_, g, pl, pr, rfl, hg, hn, ho.keep hk, ?_, hb.alloc hb.size _⟩
  obtain ⟨d, hd⟩ : ∃ d, m + k = d + 1 := ⟨m + k - 1, by omega⟩
  have : TreeW f (W.alloc (.cells #[.int .i64 f, .slice (some ⟨g, 0, none⟩) (m + k + 1) (m + k + 1), .pointer pl, .pointer pr] 66)) (d + 1) (some ⟨W.heap.size, 0, none⟩) F (m + k) := ⟨_, g, pl, pr, rfl, hn, ho.keep hk, .inr ⟨m, k, rfl, m1, k1, (hl.keep hk).more (by omega), (hr.keep hk).more (by omega)⟩⟩
  rw [← hd] at this
  exact this
theorem src_two (w : World) (x y : Int) (F : Nat → Int) (h0 : F 0 = x) (h1 : F 1 = y) : Src (w.alloc (.cells #[.int .i64 x, .int .i64 y] 3)) (some ⟨w.heap.size, 0, none⟩) 2 F := by
  refine .inr ⟨_, 0, rfl, by simp, fun j hj => ?_⟩
  rw [World.cell?_alloc_at _ _ _ _ rfl]
  match j with
  | 0 => rw [h0]; rfl
  | 1 => rw [h1]; rfl
  | j + 2 => omega
set_option maxRecDepth 100000 in
set_option maxHeartbeats 1600000 in
theorem tree_leaf (f : Int) (b off cap : Nat) (F : Nat → Int) (w : World) (ht : Tab w) (h0 : 0 ≤ f) (h8 : f ≤ 8) (hx : 0 ≤ F 0 ∧ F 0 < P f) (c0 : w.cell? ⟨b, off, none⟩ = some (.int .i64 (F 0))) :
    Calls Tryd.prog 55 #[.int .i64 f, .slice (some ⟨b, off, none⟩) 1 cap] w (TreeR f 1 F w) := by
  have hp := P_bd h0 h8
  have HS : Hid (Calls Tryd.prog 86 #[.int .i64 f, .int .i64 0, .int .i64 (F 0)] w fun e w' => e = .returned (.int .i64 (RS (0 - F 0) (P f))) ∧ w = w') := Lib.hid (sub_c f 0 (F 0) w ht h0 h8 (by omega) (by omega) hx.1 hx.2)
  have HP : Hid (Calls Tryd.prog 71 #[.slice (some ⟨w.heap.size, 0, none⟩) 2 2] (w.alloc (.cells #[.int .i64 (RS (0 - F 0) (P f)), .int .i64 1] 3)) (fun e w' => ∃ g, e = .returned (.slice (some ⟨g, 0, none⟩) 2 2) ∧ w.heap.size ≤ g ∧ Own w' g 2 (lf (vanL f F 1)) ∧ Below w.heap.size w w')) := Lib.hid (by
    have h1 := poly_c (some ⟨w.heap.size, 0, none⟩) 2 2 (lf (linL f (F 0))) (w.alloc (.cells #[.int .i64 (RS (0 - F 0) (P f)), .int .i64 1] 3)) (by omega) (src_two w _ _ _ rfl rfl)
    refine h1.mono fun e w' h => ?_
    have e1 : cutL 2 (lf (linL f (F 0))) = vanL f F 1 := by
      rw [vanL_leaf h0 h8]
      exact cut_self (l := linL f (F 0)) (linL_pol h0 h8 _)
    rw [e1] at h
    have h2 := h.up (u := w) ((Below.refl _ _).alloc (Nat.le_refl _) _)
    obtain ⟨g, h3, h4, h5, h6⟩ := h2
    rw [vanL_len h0 h8] at h3 h5
    exact ⟨g, h3, h4, h5, h6⟩)
  generalize RS (0 - F 0) (P f) = v at *
  go_enter Tryd.func55, Tryd.ntmps55
  go_wp2_with fail
  refine HS.out.mono ?_
  rintro e w' ⟨rfl, rfl⟩
  go_wp2_with fail
  refine HP.out.mono ?_
  rintro e w2 ⟨g, rfl, hg, ho, hb⟩
  have HR := Lib.hid (TreeR.leaf hg ho hb)
  clear ho hb
  go_wp2
  go_ret
  exact HR.out
set_option maxRecDepth 100000 in
set_option maxHeartbeats 3200000 in
theorem tree_node (f : Int) (b off n m k cap : Nat) (F : Nat → Int) (w : World) (ht : Tab w) (h0 : 0 ≤ f) (h8 : f ≤ 8) (m1 : 1 ≤ m) (k1 : 1 ≤ k) (hnm : n = m + k) (hmk : m = n / 2) (h40 : n ≤ 40) (hcap : n ≤ cap)
    (HL : Hid (∀ W, Below w.heap.size w W → Calls Tryd.prog 55 #[.int .i64 f, .slice (some ⟨b, off, none⟩) m cap] W (TreeR f m F W)))
    (HR : Hid (∀ W, Below w.heap.size w W → Calls Tryd.prog 55 #[.int .i64 f, .slice (some ⟨b, off + m, none⟩) (n - m) (cap - m)] W (TreeR f k (fun j => F (m + j)) W))) :
    Calls Tryd.prog 55 #[.int .i64 f, .slice (some ⟨b, off, none⟩) n cap] w (TreeR f n F w) := by
  have hp := P_bd h0 h8
  have e0 : ((n : Int) == 0) = false := by simp; omega
  have e1 : ((n : Int) == 1) = false := by simp; omega
  have e2 : (n : Int).tdiv 2 = (m : Int) := by rw [Int.tdiv_eq_ediv_of_nonneg (by omega)]; omega
  have PP : Hid (∀ (g1 g2 : Nat) (W : World), Below w.heap.size w W → Own W g1 (m + 1) (lf (vanL f F m)) → Own W g2 (k + 1) (lf (vanL f (fun j => F (m + j)) k)) → Calls Tryd.prog 87 #[.int .i64 f, .slice (some ⟨g1, 0, none⟩) (m + 1) (m + 1), .slice (some ⟨g2, 0, none⟩) (k + 1) (k + 1)] W (fun e w' => ∃ g, e = .returned (.slice (some ⟨g, 0, none⟩) (m + k + 1) (m + k + 1)) ∧ W.heap.size ≤ g ∧ Own w' g (m + k + 1) (lf (vanL f F (m + k))) ∧ Below W.heap.size W w')) := Lib.hid fun g1 g2 W hb o1 o2 => by
    have l1 := vanL_len h0 h8 F m
    have l2 := vanL_len h0 h8 (fun j => F (m + j)) k
    have h := product_c f (some ⟨g1, 0, none⟩) (some ⟨g2, 0, none⟩) (vanL f F m) (vanL f (fun j => F (m + j)) k) (m + 1) (k + 1) W (ht.below hb) h0 h8 (by omega) (by omega) (vanL_pol h0 h8 _ _) (vanL_pol h0 h8 _ _) (by rw [l1]; exact o1.src) (by rw [l2]; exact o2.src)
    rw [l1, l2, ← vanL_add h0 h8 F m k] at h
    refine h.mono fun e w' h => ?_
    obtain ⟨g, h3, h4, h5, h6⟩ := h
    rw [vanL_len h0 h8] at h3 h5
    exact ⟨g, h3, h4, h5, h6⟩
  have HF : Hid (∀ (g : Nat) (pl pr : Option Addr) (W : World), w.heap.size ≤ g → Own W g (m + k + 1) (lf (vanL f F (m + k))) → TreeW f W m pl F m → TreeW f W k pr (fun j => F (m + j)) k → Below w.heap.size w W → TreeR f n F w (.returned (.pointer (some ⟨W.heap.size, 0, none⟩))) (W.alloc (.cells #[.int .i64 f, .slice (some ⟨g, 0, none⟩) (m + k + 1) (m + k + 1), .pointer pl, .pointer pr] 66))) := Lib.hid fun g pl pr W hg ho hl hr hb => by subst hnm; exact TreeR.node m1 k1 hg ho hl hr hb
  have b00 : Below w.heap.size w w.drew := (Below.refl _ _).drew
  have tok1 : True := trivial
  have m0 : (0 : Int) ≤ (m : Int) := by omega
  have m2 : (m : Int) ≤ n := by omega
  have m3 : (n : Int) ≤ cap := by omega
  have m4 : (m : Int) ≤ cap := by omega
  have m5 : ¬ cap = m := by omega
  have m6 : ¬ m = 0 := by omega
  clear ht hp hmk hnm hcap
  go_enter Tryd.func55, Tryd.ntmps55
  go_wp2_with fail
  go_region_held3 (fun _ => True) (first | trivial | go_keep)
    (first
      | (go_at_call 55; clear tok1; refine (HL.out _ b00).mono ?_; rintro e w1 ⟨b1, g1, pl1, pr1, rfl, hg1, N1, O1, T1, b2⟩; have b3 := below_up b00 b2 b00.size)
      | (go_at_call 55; refine (HR.out _ b3).mono ?_; rintro e w2 ⟨b4, g2, pl2, pr2, rfl, hg2, N2, O2, T2, b5⟩; have b6 := below_up b3 b5 b3.size))
  have N3 := N1.keep b5 N1.lt
  have O3 := O1.keep b5
  have T3 := T1.keep b5
  have b7 : Below w.heap.size w w2.drew := b6.drew
  have O4 : Own w2.drew g1 (m + 1) (lf (vanL f F m)) := O3
  have O5 : Own w2.drew g2 (k + 1) (lf (vanL f (fun j => F (m + j)) k)) := O2
  have k0 : w2.cell? ⟨b1, 1, none⟩ = some (.slice (some ⟨g1, 0, none⟩) (m + 1) (m + 1)) ∧ w2.cell? ⟨b4, 1, none⟩ = some (.slice (some ⟨g2, 0, none⟩) (k + 1) (k + 1)) := ⟨N3.2.1, N2.2.1⟩
  have k3 : w2.drew.cell? ⟨b1, 1, none⟩ = some (.slice (some ⟨g1, 0, none⟩) (m + 1) (m + 1)) ∧ w2.drew.cell? ⟨b4, 1, none⟩ = some (.slice (some ⟨g2, 0, none⟩) (k + 1) (k + 1)) := k0
  have T4 : TreeW f w2.drew m (some ⟨b1, 0, none⟩) F m := TreeW.keep ((Below.refl _ _).drew) T3
  have T5 : TreeW f w2.drew k (some ⟨b4, 0, none⟩) (fun j => F (m + j)) k := TreeW.keep ((Below.refl _ _).drew) T2
  have n1 := N3.lt
  have n2 := N2.lt
  clear HL HR b00 b2 b3 b5 b6 N1 O1 T1 N2 O2 T2 N3 O3 T3
  go_wp2_with fail
  go_region_held3 (fun W1 => W1.cell? ⟨b1, 1, none⟩ = some (.slice (some ⟨g1, 0, none⟩) (m + 1) (m + 1)) ∧ W1.cell? ⟨b4, 1, none⟩ = some (.slice (some ⟨g2, 0, none⟩) (k + 1) (k + 1)))
    (first | exact k0 | exact k3 | exact k4 | go_keep)
    ((go_at_call 87; refine (PP.out g1 g2 _ b7 O4 O5).mono ?_; rintro e w3 ⟨g, rfl, hg, O6, b8⟩; have k4 : w3.cell? ⟨b1, 1, none⟩ = some (.slice (some ⟨g1, 0, none⟩) (m + 1) (m + 1)) ∧ w3.cell? ⟨b4, 1, none⟩ = some (.slice (some ⟨g2, 0, none⟩) (k + 1) (k + 1)) := ⟨(b8.cell (p := ⟨b1, 1, none⟩) n1).trans k3.1, (b8.cell (p := ⟨b4, 1, none⟩) n2).trans k3.2⟩))
  have b9 := below_up b7 b8 b7.size
  have HR := Lib.hid (HF.out g (some ⟨b1, 0, none⟩) (some ⟨b4, 0, none⟩) w3 (Nat.le_trans b7.size hg) O6 (T4.keep b8) (T5.keep b8) b9)
  clear HF PP O6 T4 T5 k0 k3 k4 b8 b9 O4 O5
  go_wp2
  go_ret
  exact HR.out
theorem tree_c (f : Int) (h0 : 0 ≤ f) (h8 : f ≤ 8) : ∀ (n : Nat) (a : Option Addr) (cap : Nat) (F : Nat → Int) (w : World), Tab w → 1 ≤ n → n ≤ 40 → n ≤ cap → (∀ j, j < n → 0 ≤ F j ∧ F j < P f) → Src w a n F → Calls Tryd.prog 55 #[.int .i64 f, .slice a n cap] w (TreeR f n F w) := by
  intro n
  induction n using Nat.strongRecOn with
  | ind n ih =>
    intro a cap F w ht n1 n40 hcap hF hs
    obtain ⟨b, off, rfl, hlt, hc⟩ : ∃ b off, a = some ⟨b, off, none⟩ ∧ b < w.heap.size ∧ ∀ j, j < n → w.cell? ⟨b, off + j, none⟩ = some (.int .i64 (F j)) := by
      rcases hs with h | h
      · omega
      · exact h
    by_cases e : n = 1
    · subst e
      exact tree_leaf f b off cap F w ht h0 h8 (hF 0 (by omega)) (hc 0 (by omega))
    · obtain ⟨m, k, rfl, hm, m1, k1⟩ : ∃ m k, n = m + k ∧ m = n / 2 ∧ 1 ≤ m ∧ 1 ≤ k := ⟨n / 2, n - n / 2, by omega, rfl, by omega, by omega⟩
      exact tree_node f b off (m + k) m k cap F w ht h0 h8 m1 k1 rfl hm n40 hcap
        (Lib.hid fun W hb => ih m (by omega) _ _ _ W (ht.below hb) m1 (by omega) (by omega) (fun j hj => hF j (by omega)) (.inr ⟨b, off, rfl, Nat.lt_of_lt_of_le hlt hb.size, fun j hj => (hb.cell (p := ⟨b, off + j, none⟩) hlt).trans (hc j (by omega))⟩))
        (Lib.hid fun W hb => by rw [show m + k - m = k by omega]; exact ih k (by omega) _ _ _ W (ht.below hb) k1 (by omega) (by omega) (fun j hj => hF (m + j) (by omega)) (.inr ⟨b, off + m, rfl, Nat.lt_of_lt_of_le hlt hb.size, fun j hj => (hb.cell (p := ⟨b, off + m + j, none⟩) hlt).trans (by rw [show off + m + j = off + (m + j) by omega]; exact hc (m + j) (by omega))⟩))
end Go.Proofs.YtangofjpnhhfeabDoor
namespace Go.Proofs.YtangofjpnhhfeabDoor
open Go.RowKit
theorem own_owns {w : World} {g n base : Nat} {F : Nat → Int} (h : Own w g n F) (hg : base ≤ g) (hn : n ≤ 1048576) : w.ownsRow base 3 1 (.slice (some ⟨g, 0, none⟩) n n) n (xsF F n) := by
  obtain ⟨cur, h1, h2, h3⟩ := h
  refine ⟨by rw [xsF_len, Nat.mul_one], .inr ⟨g, n, cur, rfl, hg, h1, Nat.le_refl _, by unfold maxLen; omega, by omega, ?_⟩⟩
  rw [Nat.mul_one]
  refine List.ext_getElem? fun j => ?_
  by_cases hj : j < n
  · have h4 := h3 j hj
    rw [List.getElem?_take_of_lt hj]
    have h5 : cur.toList[j]? = cur[j]? := by simp
    rw [h5, h4]
    simp [xsF, hj]
  · rw [List.getElem?_eq_none (by rw [List.length_take]; omega), List.getElem?_eq_none (by rw [xsF_len]; omega)]
theorem OwnG.owns {w w' : World} {l : List Int} {e : Ending} (h : OwnG w l e w') (hl : l.length ≤ 1048576) : OwnsL w l e w' := by
  obtain ⟨g, rfl, hg, ho, hb⟩ := h
  exact ⟨_, rfl, own_owns ho hg hl, hb⟩
theorem ownsU_keep {w w' : World} {B n : Nat} {v : Value} {xs : List Value} (h : w.ownsRow B 3 1 v n xs) (hb : Below w.heap.size w w') : w'.ownsRow B 3 1 v n xs := h.kept (row := none) ⟨hb.os, hb.tape, hb.output, hb.size, fun i hi _ => hb.block i hi⟩ (by cases v.ownBlock <;> simp)
theorem ownsU_low {w : World} {B B' n : Nat} {v : Value} {xs : List Value} (h : w.ownsRow B 3 1 v n xs) (hB : B' ≤ B) : w.ownsRow B' 3 1 v n xs :=
  ⟨h.1, h.2.imp id fun ⟨g, cap, cur, h1, h2, h3⟩ => ⟨g, cap, cur, h1, Nat.le_trans hB h2, h3⟩⟩
theorem xsF_app (F G H : Nat → Int) (m k : Nat) (h1 : ∀ j, j < m → F j = H j) (h2 : ∀ j, j < k → G j = H (m + j)) : xsF F m ++ xsF G k = xsF H (m + k) := by
  unfold xsF
  rw [List.range_add, List.map_append, List.map_map]
  congr 1
  · exact List.map_congr_left fun j hj => by rw [h1 j (List.mem_range.1 hj)]
  · exact List.map_congr_left fun j hj => by show Value.int .i64 (G j) = Value.int .i64 (H (m + j)); rw [h2 j (List.mem_range.1 hj)]
theorem news_ow {w : World} {B n : Nat} {F : Nat → Int} {g cap : Nat} (h : w.ownsRow B 3 1 (.slice (some ⟨g, 0, none⟩) n cap) n (xsF F n)) (hn : n ≠ 0) : ∀ j u, (xsF F n)[j]? = some u → w.cell? ((⟨g, 0, none⟩ : Addr).add j) = some u := fun j u hu => by
  obtain ⟨hj, rfl⟩ := xsF_at hu
  obtain ⟨g2, cap2, e, _, ho⟩ := OwnV.of_owns h hn
  injection e with e1
  injection e1 with e1
  injection e1 with e1
  subst e1
  have hadd : (⟨g, 0, none⟩ : Addr).add j = ⟨g, j, none⟩ := by unfold Addr.add; split <;> simp_all
  rw [hadd]
  exact ho.cell hj
set_option maxRecDepth 100000 in
set_option maxHeartbeats 3200000 in
theorem values_leaf (f : Int) (h0 : 0 ≤ f) (h8 : f ≤ 8) (b g : Nat) (X : Nat → Int) (aa : Option Addr) (l : List Int) (cap : Nat) (w : World) (hN : NodeW w b f g 1 none none) (hO : Own w g 2 (lf (vanL f X 1))) (ht : Tab w) (hl : Pol f l) (hn : l.length ≤ 4096) (hs : Src w aa l.length (lf l)) :
    Calls Tryd.prog 58 #[.pointer (some ⟨b, 0, none⟩), .slice aa l.length cap] w (OwnsL w (valsL f X l 1)) := by
  have hv := vanL_len h0 h8 X 1
  have hleaf := leaf_val h0 h8 X hl
  have RM : Hid (∀ W, Below w.heap.size w W → Calls Tryd.prog 90 #[.int .i64 f, .slice aa l.length cap, .slice (some ⟨g, 0, none⟩) 2 2] W (OwnG W (remL f l (vanL f X 1)))) := Lib.hid fun W hb => by
    have := remainder_c f aa (some ⟨g, 0, none⟩) l (vanL f X 1) cap 2 W (ht.below hb) h0 h8 hn (by omega) (by omega) hl (vanL_pol h0 h8 _ _) (hs.keep hb) (by rw [hv]; exact (hO.keep hb).src)
    rwa [hv] at this
  have PD : Hid (∀ (g1 : Nat) (W W1 : World), Own W1 g1 (remL f l (vanL f X 1)).length (lf (remL f l (vanL f X 1))) → Calls Tryd.prog 91 #[.slice (some ⟨g1, 0, none⟩) (remL f l (vanL f X 1)).length (remL f l (vanL f X 1)).length, .int .i64 1] W1 (OwnG W1 (valsL f X l 1))) := Lib.hid fun g1 W W1 ho => by
    have := padded_c (some ⟨g1, 0, none⟩) (remL f l (vanL f X 1)) (remL f l (vanL f X 1)).length 1 W1 hleaf.1 (by omega) ho.src
    rwa [hleaf.2] at this
  have HF : Hid (∀ e W W', Below w.heap.size w W → OwnG W (valsL f X l 1) e W' → OwnsL w (valsL f X l 1) e W') := Lib.hid fun e W W' hb h => (h.up hb).owns (by rw [valsL_len]; omega)
  have b0 : Below w.heap.size w w.drew := (Below.refl _ _).drew
  have k0 : w.drew.cell? ⟨b, 0, none⟩ = some (.int .i64 f) ∧ w.drew.cell? ⟨b, 1, none⟩ = some (.slice (some ⟨g, 0, none⟩) 2 2) := ⟨hN.1, hN.2.1⟩
  clear hl hs hO ht hleaf hv hn
  generalize remL f l (vanL f X 1) = r at *
  generalize valsL f X l 1 = V at *
  generalize l.length = n at *
  go_enter Tryd.func58, Tryd.ntmps58
  go_wp2_with fail
  go_region_held3 (fun W1 => W1.cell? ⟨b, 0, none⟩ = some (.int .i64 f) ∧ W1.cell? ⟨b, 1, none⟩ = some (.slice (some ⟨g, 0, none⟩) 2 2))
    (first | exact ⟨hN.1, hN.2.1⟩ | exact k0 | exact k1 | go_keep)
    ((go_at_call 90; refine (RM.out _ b0).mono ?_; rintro e w1 ⟨g1, rfl, hg1, o1, b1⟩; have b2 := below_up b0 b1 b0.size; have hN1 := hN.keep b2 hN.lt; have k1 : w1.cell? ⟨b, 0, none⟩ = some (.int .i64 f) ∧ w1.cell? ⟨b, 1, none⟩ = some (.slice (some ⟨g, 0, none⟩) 2 2) := ⟨hN1.1, hN1.2.1⟩))
  have c2 := hN1.2.2.1
  clear k1 k0 hN
  go_wp2_with fail
  refine (PD.out g1 w w1 o1).mono ?_
  intro e w2 h2
  have HR := Lib.hid (HF.out _ _ _ b2 h2)
  obtain ⟨v, rfl, _⟩ := h2
  clear o1 PD HF
  go_wp2
  go_ret
  exact HR.out
set_option maxRecDepth 100000 in
set_option maxHeartbeats 6400000 in
theorem values_node (f : Int) (h0 : 0 ≤ f) (h8 : f ≤ 8) (b g m k : Nat) (p1 p2 : Addr) (X : Nat → Int) (aa : Option Addr) (l : List Int) (cap : Nat) (w : World) (m1 : 1 ≤ m) (k1 : 1 ≤ k) (h40 : m + k ≤ 40) (hN : NodeW w b f g (m + k) (some p1) (some p2)) (hO : Own w g (m + k + 1) (lf (vanL f X (m + k)))) (ht : Tab w) (hl : Pol f l) (hn : l.length ≤ 4096) (hs : Src w aa l.length (lf l))
    (VL : Hid (∀ (g1 : Nat) (W : World), Below w.heap.size w W → Own W g1 (remL f l (vanL f X (m + k))).length (lf (remL f l (vanL f X (m + k)))) → Calls Tryd.prog 58 #[.pointer (some p1), .slice (some ⟨g1, 0, none⟩) (remL f l (vanL f X (m + k))).length (remL f l (vanL f X (m + k))).length] W (OwnsL W (valsL f X l m))))
    (VR : Hid (∀ (g1 : Nat) (W : World), Below w.heap.size w W → Own W g1 (remL f l (vanL f X (m + k))).length (lf (remL f l (vanL f X (m + k)))) → Calls Tryd.prog 58 #[.pointer (some p2), .slice (some ⟨g1, 0, none⟩) (remL f l (vanL f X (m + k))).length (remL f l (vanL f X (m + k))).length] W (OwnsL W (valsL f (fun j => X (m + j)) l k)))) :
    Calls Tryd.prog 58 #[.pointer (some ⟨b, 0, none⟩), .slice aa l.length cap] w (OwnsL w (valsL f X l (m + k))) := by
  have hv := vanL_len h0 h8 X (m + k)
  have RM : Hid (∀ W, Below w.heap.size w W → Calls Tryd.prog 90 #[.int .i64 f, .slice aa l.length cap, .slice (some ⟨g, 0, none⟩) (m + k + 1) (m + k + 1)] W (OwnG W (remL f l (vanL f X (m + k))))) := Lib.hid fun W hb => by
    have := remainder_c f aa (some ⟨g, 0, none⟩) l (vanL f X (m + k)) cap (m + k + 1) W (ht.below hb) h0 h8 hn (by omega) (by omega) hl (vanL_pol h0 h8 _ _) (hs.keep hb) (by rw [hv]; exact (hO.keep hb).src)
    rwa [hv] at this
  have HF : Hid (∀ (v : Value) (W' : World), W'.ownsRow w.heap.size 3 1 v (m + k) (xsF (lf (valsL f X l m)) m ++ xsF (lf (valsL f (fun j => X (m + j)) l k)) k) → Below w.heap.size w W' → OwnsL w (valsL f X l (m + k)) (.returned v) W') := Lib.hid fun v W' h hb => by
    rw [xsF_app _ _ (lf (valsL f X l (m + k))) m k (fun j hj => by rw [lf_valsL hj, lf_valsL (by omega)]) (fun j hj => by rw [lf_valsL hj, lf_valsL (by omega)])] at h
    exact owns_to h (valsL_len _ _ _ _).symm (fun _ _ => rfl) hb
  have LL : Hid (∀ (W : World) (e : Ending) (w' : World), OwnsL W (valsL f X l m) e w' → ∃ g1 c1, e = .returned (.slice (some ⟨g1, 0, none⟩) m c1) ∧ W.heap.size ≤ g1 ∧ g1 < w'.heap.size ∧ w'.ownsRow W.heap.size 3 1 (.slice (some ⟨g1, 0, none⟩) m c1) m (xsF (lf (valsL f X l m)) m) ∧ Below W.heap.size W w') := Lib.hid fun W e w' h => by
    obtain ⟨v, rfl, ho, hb⟩ := h
    rw [valsL_len] at ho
    obtain ⟨g1, c1, rfl, hg, hlt⟩ := ho.form (by omega)
    exact ⟨g1, c1, rfl, hg, hlt, ho, hb⟩
  have LR : Hid (∀ (W : World) (e : Ending) (w' : World), OwnsL W (valsL f (fun j => X (m + j)) l k) e w' → ∃ g1 c1, e = .returned (.slice (some ⟨g1, 0, none⟩) k c1) ∧ W.heap.size ≤ g1 ∧ g1 < w'.heap.size ∧ w'.ownsRow W.heap.size 3 1 (.slice (some ⟨g1, 0, none⟩) k c1) k (xsF (lf (valsL f (fun j => X (m + j)) l k)) k) ∧ Below W.heap.size W w') := Lib.hid fun W e w' h => by
    obtain ⟨v, rfl, ho, hb⟩ := h
    rw [valsL_len] at ho
    obtain ⟨g1, c1, rfl, hg, hlt⟩ := ho.form (by omega)
    exact ⟨g1, c1, rfl, hg, hlt, ho, hb⟩
  have b0 : Below w.heap.size w w.drew := (Below.refl _ _).drew
  have k0 : w.drew.cell? ⟨b, 0, none⟩ = some (.int .i64 f) ∧ w.drew.cell? ⟨b, 1, none⟩ = some (.slice (some ⟨g, 0, none⟩) (m + k + 1) (m + k + 1)) := ⟨hN.1, hN.2.1⟩
  obtain ⟨i0, hi0, hz, hz1, hz2⟩ := info_parts info3
  have HI := Lib.hid hi0
  have HZ0 := Lib.hid hz
  have HZ1 := Lib.hid hz1
  have HZ2 := Lib.hid hz2
  clear hl hs hO ht hv hn hi0 hz hz1 hz2
  generalize remL f l (vanL f X (m + k)) = r at *
  generalize valsL f X l (m + k) = V at *
  generalize valsL f X l m = V1 at *
  generalize valsL f (fun j => X (m + j)) l k = V2 at *
  generalize l.length = n at *
  go_enter Tryd.func58, Tryd.ntmps58
  go_wp2_with fail
  go_region_held3 (fun W1 => W1.cell? ⟨b, 0, none⟩ = some (.int .i64 f) ∧ W1.cell? ⟨b, 1, none⟩ = some (.slice (some ⟨g, 0, none⟩) (m + k + 1) (m + k + 1)))
    (first | exact ⟨hN.1, hN.2.1⟩ | exact k0 | exact k1 | go_keep)
    ((go_at_call 90; refine (RM.out _ b0).mono ?_; rintro e w1 ⟨g1, rfl, hg1, o1, b1⟩; have b2 := below_up b0 b1 b0.size; have hN1 := hN.keep b2 hN.lt; have k1 : w1.cell? ⟨b, 0, none⟩ = some (.int .i64 f) ∧ w1.cell? ⟨b, 1, none⟩ = some (.slice (some ⟨g, 0, none⟩) (m + k + 1) (m + k + 1)) := ⟨hN1.1, hN1.2.1⟩))
  have c2 := hN1.2.2.1
  have c3 := hN1.2.2.2
  have lb := hN1.lt
  have b3 : Below w.heap.size w w1.drew := b2.drew
  have o2 : Own w1.drew g1 r.length (lf r) := o1
  have k2 : w1.drew.cell? ⟨b, 2, none⟩ = some (.pointer (some p1)) ∧ w1.drew.cell? ⟨b, 3, none⟩ = some (.pointer (some p2)) := ⟨c2, c3⟩
  have tok1 : True := trivial
  clear k1 k0 hN1 RM b0 b1
  go_wp2_with fail
  go_region_held3 (fun W1 => W1.cell? ⟨b, 2, none⟩ = some (.pointer (some p1)) ∧ W1.cell? ⟨b, 3, none⟩ = some (.pointer (some p2)))
    (first | exact ⟨c2, c3⟩ | exact k2 | exact k3 | exact k4 | exact k5 | go_keep)
    (first
      | (go_at_call 58; clear tok1; refine (VL.out g1 _ b3 o2).mono ?_; intro e w3 h3; obtain ⟨g3, q3, rfl, hg3, l3, o3, b4⟩ := LL.out _ _ _ h3; clear h3; have b5 := below_up b3 b4 b3.size; have o4 := o2.keep b4; have hk3 := hN.keep b5 hN.lt; have k3 : w3.cell? ⟨b, 2, none⟩ = some (.pointer (some p1)) ∧ w3.cell? ⟨b, 3, none⟩ = some (.pointer (some p2)) := ⟨hk3.2.2.1, hk3.2.2.2⟩)
      | (go_at_call 58; refine (VR.out g1 _ b5 o4).mono ?_; intro e w4 h4; obtain ⟨g4, q4, rfl, hg4, l4, o5, b6⟩ := LR.out _ _ _ h4; clear h4; have b7 := below_up b5 b6 b5.size; have o6 := ownsU_low (ownsU_keep o3 b6) (B' := w.heap.size) b3.size; have hk4 := hN.keep b7 hN.lt; have k4 : w4.cell? ⟨b, 2, none⟩ = some (.pointer (some p1)) ∧ w4.cell? ⟨b, 3, none⟩ = some (.pointer (some p2)) := ⟨hk4.2.2.1, hk4.2.2.2⟩)
      | (refine step_append_lies _ (by rfl) _ _ _ (by rfl) w.heap.size 3 i0 _ 1 8 Tryd.underlying22 HI.out HZ0.out HZ1.out HZ2.out rfl (by omega) _ m _ (by rfl) o6 ⟨g4, 0, none⟩ k q4 (xsF (lf V2) k) (by rfl) (by rw [xsF_len, Nat.mul_one]) (news_ow o5 (by omega)) xsF_one (by omega) (by unfold maxLen; omega) (by omega) b7.size w4.heap.size rfl ?_; intro g5 q5 w5 o7 hgrow hat hlt'; have lb2 := hN.lt; have sz3 := b3.size; have sz7 := b7.size; have k5 : w5.cell? ⟨b, 2, none⟩ = some (.pointer (some p1)) ∧ w5.cell? ⟨b, 3, none⟩ = some (.pointer (some p2)) := ⟨(hgrow.cell_far ⟨b, 2, none⟩ (by show b < _; omega) (by show some b ≠ some g3; intro e; injection e with e; omega)).trans k4.1, (hgrow.cell_far ⟨b, 3, none⟩ (by show b < _; omega) (by show some b ≠ some g3; intro e; injection e with e; omega)).trans k4.2⟩))
  have HR := Lib.hid (HF.out _ w5 o7 (b7.grown hgrow b7.size (own_ge o6)))
  clear k2 k3 k4 k5 o7 hgrow hat o5 o6 o4 o2 HF VL VR LL LR
  go_wp2
  go_ret
  exact HR.out
theorem values_c (f : Int) (h0 : 0 ≤ f) (h8 : f ≤ 8) : ∀ (d : Nat) (p : Option Addr) (X : Nat → Int) (n : Nat) (aa : Option Addr) (l : List Int) (cap : Nat) (w : World), TreeW f w d p X n → n ≤ 40 → Tab w → Pol f l → l.length ≤ 4096 → Src w aa l.length (lf l) → Calls Tryd.prog 58 #[.pointer p, .slice aa l.length cap] w (OwnsL w (valsL f X l n)) := by
  intro d
  induction d with
  | zero => intro p X n aa l cap w h; exact absurd h (by intro h; exact h)
  | succ d ih =>
    rintro p X n aa l cap w ⟨b, g, pl, pr, rfl, hN, hO, hb⟩ h40 ht hl hn hs
    rcases hb with ⟨rfl, rfl, rfl⟩ | ⟨m, k, rfl, m1, k1, hL, hR⟩
    · exact values_leaf f h0 h8 b g X aa l cap w hN hO ht hl hn hs
    · have hv := vanL_len h0 h8 X (m + k)
      have hlen := remL_len (f := f) (a := l) (b := vanL f X (m + k)) (by omega)
      have hpol := remL_pol h0 h8 hl (vanL_pol h0 h8 X (m + k)) (by omega)
      have hp1 : ∃ q, pl = some q := by
        cases d with
        | zero => exact absurd hL (by intro h; exact h)
        | succ d => obtain ⟨q, _, _, _, h, _⟩ := hL; exact ⟨_, h⟩
      have hp2 : ∃ q, pr = some q := by
        cases d with
        | zero => exact absurd hR (by intro h; exact h)
        | succ d => obtain ⟨q, _, _, _, h, _⟩ := hR; exact ⟨_, h⟩
      obtain ⟨p1, rfl⟩ := hp1
      obtain ⟨p2, rfl⟩ := hp2
      refine values_node f h0 h8 b g m k p1 p2 X aa l cap w m1 k1 h40 hN hO ht hl hn hs (Lib.hid fun g1 W hb ho => ?_) (Lib.hid fun g1 W hb ho => ?_)
      · have h1 := ih (some p1) X m (some ⟨g1, 0, none⟩) (remL f l (vanL f X (m + k))) (remL f l (vanL f X (m + k))).length W (hL.keep hb) (by omega) (ht.below hb) hpol (by omega) ho.src
        rwa [valsL_rem h0 h8 X hl (by omega)] at h1
      · have h1 := ih (some p2) (fun j => X (m + j)) k (some ⟨g1, 0, none⟩) (remL f l (vanL f X (m + k))) (remL f l (vanL f X (m + k))).length W (hR.keep hb) (by omega) (ht.below hb) hpol (by omega) ho.src
        rwa [valsL_part h0 h8 X hl] at h1
end Go.Proofs.YtangofjpnhhfeabDoor
namespace Go.Proofs.YtangofjpnhhfeabDoor
open Go.RowKit
set_option maxHeartbeats 800000 in
theorem same_some (b off b2 off2 n cap cap2 : Nat) (F : Nat → Int) (w : World) (hn : n ≤ 1048576) (hlt : b < w.heap.size) (hlt2 : b2 < w.heap.size) (hc : ∀ j, j < n → w.cell? ⟨b, off + j, none⟩ = some (.int .i64 (F j))) (hc2 : ∀ j, j < n → w.cell? ⟨b2, off2 + j, none⟩ = some (.int .i64 (F j))) :
    Calls Tryd.prog 25 #[.slice (some ⟨b, off, none⟩) n cap, .slice (some ⟨b2, off2, none⟩) n cap2] w (TrueP w) := by
  have HC := Lib.hid hc
  have HC2 := Lib.hid hc2
  clear hc hc2
  go_enter Tryd.func25, Tryd.ntmps25
  go_wp2_with fail
  go_loopw [5] (fun i wr => ∃ k : Nat, i = .int .i64 k ∧ k ≤ n ∧ Below w.heap.size w wr) (fun i _ => n - (intOf i).toNat)
  case atStart => exact ⟨0, rfl, Nat.zero_le _, Below.refl _ _⟩
  case round =>
    obtain ⟨k, rfl, hk, hb⟩ := hrel
    by_cases h1 : k < n
    · have c1 : wr.cell? ⟨b, off + k, none⟩ = some (.int .i64 (F k)) := (hb.cell (p := ⟨b, off + k, none⟩) hlt).trans (HC.out k h1)
      have c2 : wr.cell? ⟨b2, off2 + k, none⟩ = some (.int .i64 (F k)) := (hb.cell (p := ⟨b2, off2 + k, none⟩) hlt2).trans (HC2.out k h1)
      go_wp2
      go_quiet (fail)
      go_wp2
      go_roundw
      case rel => exact ⟨k + 1, by go_num, by omega, below_drewN hb _⟩
      case measure => simp [intOf]; omega
    · have hd : decide (k < n) = false := by simpa using h1
      go_wp2
      go_ret
      exact ⟨rfl, hb⟩
theorem same_none (a a2 : Option Addr) (cap cap2 : Nat) (w : World) : Calls Tryd.prog 25 #[.slice a 0 cap, .slice a2 0 cap2] w (TrueP w) := by
  go_enter Tryd.func25, Tryd.ntmps25
  go_wp2
  refine wp_loop_rounds 1 ?_
  rw [rounds_succ]
  go_wp2
  go_ret
  exact ⟨rfl, Below.refl _ _⟩
theorem same_c (a a2 : Option Addr) (n cap cap2 : Nat) (F : Nat → Int) (w : World) (hn : n ≤ 1048576) (hs : Src w a n F) (hs2 : Src w a2 n F) : Calls Tryd.prog 25 #[.slice a n cap, .slice a2 n cap2] w (TrueP w) := by
  rcases hs with rfl | ⟨b, off, rfl, hlt, hc⟩
  · exact same_none a a2 cap cap2 w
  · rcases hs2 with rfl | ⟨b2, off2, rfl, hlt2, hc2⟩
    · exact same_none _ a2 cap cap2 w
    · exact same_some b off b2 off2 n cap cap2 F w hn hlt hlt2 hc hc2
theorem Src.congr {w : World} {a : Option Addr} {n : Nat} {F G : Nat → Int} (h : Src w a n F) (e : ∀ j, j < n → F j = G j) : Src w a n G := by
  refine h.imp id ?_
  rintro ⟨b, off, e1, hlt, hc⟩
  exact ⟨b, off, e1, hlt, fun j hj => by rw [hc j hj, e j hj]⟩
end Go.Proofs.YtangofjpnhhfeabDoor
namespace Go.Proofs.YtangofjpnhhfeabDoor
open Go.RowKit
set_option maxRecDepth 100000 in
set_option maxHeartbeats 1600000 in
theorem pointwise_some (f : Int) (b off b2 off2 n cap cap2 : Nat) (A B : Nat → Int) (w : World) (ht : Tab w) (h0 : 0 ≤ f) (h8 : f ≤ 8) (hn : n ≤ 1048576) (hA : ∀ j, 0 ≤ A j ∧ A j < P f) (hB : ∀ j, 0 ≤ B j ∧ B j < P f) (hlt : b < w.heap.size) (hlt2 : b2 < w.heap.size)
    (hc : ∀ j, j < n → w.cell? ⟨b, off + j, none⟩ = some (.int .i64 (A j))) (hc2 : ∀ j, j < n → w.cell? ⟨b2, off2 + j, none⟩ = some (.int .i64 (B j))) :
    Calls Tryd.prog 89 #[.int .i64 f, .slice (some ⟨b, off, none⟩) n cap, .slice (some ⟨b2, off2, none⟩) n cap2] w (CopyP w n (fun j => RS (A j * B j) (P f))) := by
  have HC := Lib.hid hc
  have HC2 := Lib.hid hc2
  have HA := Lib.hid hA
  have HB := Lib.hid hB
  clear hc hc2 hA hB
  have hmk := made_n n hn
  go_enter Tryd.func89, Tryd.ntmps89
  go_wp2_with fail
  clear hmk
  go_loopw [8, 9, 15] (fun _ _ i wr => ∃ j : Nat, i = .int .i64 j ∧ j ≤ n ∧ Own wr w.heap.size n (fun x => if x < j then RS (A x * B x) (P f) else 0) ∧ Below w.heap.size w wr) (fun _ _ i _ => n - (intOf i).toNat)
  case atStart =>
    refine ⟨0, rfl, Nat.zero_le _, ?_, (Below.refl _ _).alloc (Nat.le_refl _) _⟩
    exact (World.rowIs_made w (.int .i64 0) n 3).congr fun j _ => by simp
  case round =>
    obtain ⟨j, rfl, hj, ho, hb⟩ := hrel
    by_cases h1 : j < n
    · have c1 : wr.cell? ⟨b, off + j, none⟩ = some (.int .i64 (A j)) := (hb.cell (p := ⟨b, off + j, none⟩) hlt).trans (HC.out j h1)
      have c2 : wr.cell? ⟨b2, off2 + j, none⟩ = some (.int .i64 (B j)) := (hb.cell (p := ⟨b2, off2 + j, none⟩) hlt2).trans (HC2.out j h1)
      have hd1 : decide ((j : Int) < n) = true := decide_eq_true (by omega)
      have HS := Lib.hid (copy_set (w := w) (F := fun x => RS (A x * B x) (P f)) ho)
      have c3 := World.rowIs.cell ho h1
      have c4 := World.rowIs.frozen ho j
      have hAj := HA.out j
      have hBj := HB.out j
      clear ho
      go_wp2_with fail
      refine (mul_c f (A j) (B j) wr (ht.below hb) h0 h8 hAj.1 hAj.2 hBj.1 hBj.2).mono ?_
      rintro e w' ⟨rfl, rfl⟩
      go_wp2
      go_roundw
      case rel => exact ⟨j + 1, by go_num, by omega, HS.out, hb.setCell (Nat.le_refl _) _⟩
      case measure => simp [intOf]; omega
    · have hd : decide (j < n) = false := by simpa using h1
      obtain rfl : j = n := by omega
      go_wp2
      go_ret
      exact ⟨rfl, World.rowIs.congr ho (fun x hx => by simp [hx]), hb⟩
end Go.Proofs.YtangofjpnhhfeabDoor
namespace Go.Proofs.YtangofjpnhhfeabDoor
open Go.RowKit
theorem inv_bd {f x : Int} (h0 : 0 ≤ f) (h8 : f ≤ 8) (x0 : 0 < x) (x1 : x < P f) : 0 ≤ mPower f x (-1) ∧ mPower f x (-1) < P f := by
  have := (inv_one h0 h8 (z := x) (by unfold RS; rw [Int.emod_eq_of_lt (by omega) x1]; omega)).2
  omega
end Go.Proofs.YtangofjpnhhfeabDoor
namespace Go.Proofs.YtangofjpnhhfeabDoor
open Go.RowKit
/-- The barycentric weights. -/
def wtX (f : Int) (X : Nat → Int) (n : Nat) : List Int := tab n fun i => mPower f (byF f X i n) (-1)
theorem wtX_len (f : Int) (X : Nat → Int) (n : Nat) : (wtX f X n).length = n := tab_len _ _
theorem OwnsL.form {w w' : World} {l : List Int} {e : Ending} (h : OwnsL w l e w') (n1 : 1 ≤ l.length) : ∃ g c, e = .returned (.slice (some ⟨g, 0, none⟩) l.length c) ∧ w.heap.size ≤ g ∧ Src w' (some ⟨g, 0, none⟩) l.length (lf l) ∧ Below w.heap.size w w' := by
  obtain ⟨v, rfl, ho, hb⟩ := h
  obtain ⟨g, c, rfl, hg, hv⟩ := OwnV.of_owns ho (by omega)
  exact ⟨g, c, rfl, hg, hv.src, hb⟩
set_option maxRecDepth 100000 in
set_option maxHeartbeats 3200000 in
theorem weights_c (f : Int) (h0 : 0 ≤ f) (h8 : f ≤ 8) (d b g n : Nat) (pl pr : Option Addr) (X : Nat → Int) (w : World) (hT : TreeW f w d (some ⟨b, 0, none⟩) X n) (hN : NodeW w b f g n pl pr) (hO : Own w g (n + 1) (lf (vanL f X n))) (n1 : 1 ≤ n) (h40 : n ≤ 40) (ht : Tab w) (hd : DistinctS f X n) :
    Calls Tryd.prog 64 #[.pointer (some ⟨b, 0, none⟩)] w (OwnG w (wtX f X n)) := by
  have hv := vanL_len h0 h8 X n
  have hdl := derL_le f (vanL f X n)
  have hdp := pol_derL h0 h8 (vanL f X n)
  have PD : Hid (∀ W, Below w.heap.size w W → Calls Tryd.prog 97 #[.int .i64 f, .slice (some ⟨g, 0, none⟩) (n + 1) (n + 1)] W (OwnG W (derL f (vanL f X n)))) := Lib.hid fun W hb => by
    have := der_c f (some ⟨g, 0, none⟩) (vanL f X n) (n + 1) W (ht.below hb) h0 h8 (by omega) (vanL_pol h0 h8 _ _) (by rw [hv]; exact (hO.keep hb).src)
    rwa [hv] at this
  have PV : Hid (∀ (g1 : Nat) W, Below w.heap.size w W → Own W g1 (derL f (vanL f X n)).length (lf (derL f (vanL f X n))) → Calls Tryd.prog 58 #[.pointer (some ⟨b, 0, none⟩), .slice (some ⟨g1, 0, none⟩) (derL f (vanL f X n)).length (derL f (vanL f X n)).length] W (fun e w' => ∃ g2 c2, e = .returned (.slice (some ⟨g2, 0, none⟩) n c2) ∧ Src w' (some ⟨g2, 0, none⟩) n (fun j => evL f (X j) (derL f (vanL f X n))) ∧ Below W.heap.size W w')) := Lib.hid fun g1 W hb ho => by
    refine (values_c f h0 h8 d _ X n (some ⟨g1, 0, none⟩) (derL f (vanL f X n)) _ W (hT.keep hb) h40 (ht.below hb) hdp (by omega) ho.src).mono fun e w' h => ?_
    obtain ⟨g2, c2, h1, h2, h3, h4⟩ := h.form (by rw [valsL_len]; exact n1)
    rw [valsL_len] at h1 h3
    refine ⟨g2, c2, h1, ?_, h4⟩
    rcases h3 with h3 | ⟨b3, o3, e3, l3, c3⟩
    · exact .inl h3
    · exact .inr ⟨b3, o3, e3, l3, fun j hj => by rw [c3 j hj, lf_valsL hj]⟩
  have PI : Hid (∀ (g2 c2 : Nat) W, Below w.heap.size w W → Src W (some ⟨g2, 0, none⟩) n (fun j => evL f (X j) (derL f (vanL f X n))) → Calls Tryd.prog 96 #[.int .i64 f, .slice (some ⟨g2, 0, none⟩) n c2] W (OwnG W (wtX f X n))) := Lib.hid fun g2 c2 W hb hs => by
    refine (inverses_c f (some ⟨g2, 0, none⟩) n c2 _ W (ht.below hb) h0 h8 (by omega) hs).mono fun e w' h => ?_
    obtain ⟨h1, h2, h3⟩ := h
    subst h1
    exact OwnG.of_own h2 (wtX_len f X n).symm (Nat.le_refl _) (fun j hj => by unfold wtX; rw [lf_tab, if_pos hj]; exact inv_van h0 h8 hd hj) h3
  have b0 : Below w.heap.size w w.drew := (Below.refl _ _).drew
  have k0 : w.drew.cell? ⟨b, 0, none⟩ = some (.int .i64 f) ∧ w.drew.cell? ⟨b, 1, none⟩ = some (.slice (some ⟨g, 0, none⟩) (n + 1) (n + 1)) := ⟨hN.1, hN.2.1⟩
  have HF : Hid (∀ e W W', Below w.heap.size w W → OwnG W (wtX f X n) e W' → OwnG w (wtX f X n) e W') := Lib.hid fun e W W' hb h => h.up hb
  clear hT hO ht hd hv hdl hdp
  generalize derL f (vanL f X n) = D at *
  generalize wtX f X n = V at *
  go_enter Tryd.func64, Tryd.ntmps64
  go_wp2_with fail
  go_region_held3 (fun W1 => W1.cell? ⟨b, 0, none⟩ = some (.int .i64 f) ∧ W1.cell? ⟨b, 1, none⟩ = some (.slice (some ⟨g, 0, none⟩) (n + 1) (n + 1)))
    (first | exact ⟨hN.1, hN.2.1⟩ | exact k0 | exact k1 | exact k2 | exact k3 | go_keep)
    (first
      | (go_at_call 97; refine (PD.out _ b0).mono ?_; rintro e w1 ⟨g1, rfl, hg1, o1, b1⟩; have b2 := below_up b0 b1 b0.size; have hN1 := hN.keep b2 hN.lt; have k1 : w1.cell? ⟨b, 0, none⟩ = some (.int .i64 f) ∧ w1.cell? ⟨b, 1, none⟩ = some (.slice (some ⟨g, 0, none⟩) (n + 1) (n + 1)) := ⟨hN1.1, hN1.2.1⟩)
      | (go_at_call 58; refine (PV.out g1 _ b2 o1).mono ?_; rintro e w2 ⟨g2, c2, rfl, s2, b3⟩; have b4 := below_up b2 b3 b2.size; have hN2 := hN.keep b4 hN.lt; have k2 : w2.cell? ⟨b, 0, none⟩ = some (.int .i64 f) ∧ w2.cell? ⟨b, 1, none⟩ = some (.slice (some ⟨g, 0, none⟩) (n + 1) (n + 1)) := ⟨hN2.1, hN2.2.1⟩)
      | (go_at_call 96; refine (PI.out g2 c2 _ b4 s2).mono ?_; intro e w3 h3; have HR := Lib.hid (HF.out _ _ _ b4 h3); obtain ⟨g3, rfl, hg3, o3, b5⟩ := h3; have b6 := below_up b4 b5 b4.size; have hN3 := hN.keep b6 hN.lt; have k3 : w3.cell? ⟨b, 0, none⟩ = some (.int .i64 f) ∧ w3.cell? ⟨b, 1, none⟩ = some (.slice (some ⟨g, 0, none⟩) (n + 1) (n + 1)) := ⟨hN3.1, hN3.2.1⟩))
  clear k0 k1 k2 k3 hN hN1 hN2 hN3 o1 s2 o3 PD PV PI HF b1 b3 b5
  go_wp2
  go_ret
  exact HR.out
def CombP (f : Int) (X S : Nat → Int) (n : Nat) (w : World) (e : Ending) (w' : World) : Prop := ∃ c, CombAt f X S n c ∧ OwnG w c e w'
set_option maxRecDepth 100000 in
theorem comb_leaf_c (f : Int) (h0 : 0 ≤ f) (h8 : f ≤ 8) (b g : Nat) (X S : Nat → Int) (aa : Option Addr) (cap : Nat) (w : World) (hN : NodeW w b f g 1 none none) (hS : 0 ≤ S 0 ∧ S 0 < P f) (hs : Src w aa 1 S) :
    Calls Tryd.prog 88 #[.pointer (some ⟨b, 0, none⟩), .slice aa 1 cap] w (CombP f X S 1 w) := by
  have PP : Hid (Calls Tryd.prog 71 #[.slice aa 1 cap] w (CombP f X S 1 w)) := Lib.hid ((poly_c aa 1 cap S w (by omega) hs).mono fun e w' h => ⟨_, by
    have := comb_leaf h0 h8 X S hS
    rwa [cutL_congr (G := S) (fun j hj => by obtain rfl : j = 0 := by omega
                                             rfl)] at this, h⟩)
  have c2 := hN.2.2.1
  clear hN hs hS
  go_enter Tryd.func88, Tryd.ntmps88
  go_wp2_with fail
  refine PP.out.mono ?_
  intro e w1 h1
  have HR := Lib.hid h1
  obtain ⟨c, _, g1, rfl, _⟩ := h1
  go_wp2
  go_ret
  exact HR.out
set_option maxRecDepth 100000 in
set_option maxHeartbeats 6400000 in
theorem comb_node_c (f : Int) (h0 : 0 ≤ f) (h8 : f ≤ 8) (b g n m k b1 g1 b2 g2 ba off cap : Nat) (pl1 pr1 pl2 pr2 : Option Addr) (X S : Nat → Int) (w : World) (m1 : 1 ≤ m) (k1 : 1 ≤ k) (hnm : n = m + k) (h40 : n ≤ 40) (hcap : n ≤ cap) (hN : NodeW w b f g n (some ⟨b1, 0, none⟩) (some ⟨b2, 0, none⟩))
    (hN1 : NodeW w b1 f g1 m pl1 pr1) (hN2 : NodeW w b2 f g2 k pl2 pr2) (hO1 : Own w g1 (m + 1) (lf (vanL f X m))) (hO2 : Own w g2 (k + 1) (lf (vanL f (fun j => X (m + j)) k))) (ht : Tab w)
    (CL : Hid (∀ W, Below w.heap.size w W → Calls Tryd.prog 88 #[.pointer (some ⟨b1, 0, none⟩), .slice (some ⟨ba, off, none⟩) m cap] W (CombP f X S m W)))
    (CR : Hid (∀ W, Below w.heap.size w W → Calls Tryd.prog 88 #[.pointer (some ⟨b2, 0, none⟩), .slice (some ⟨ba, off + m, none⟩) (n - m) (cap - m)] W (CombP f (fun j => X (m + j)) (fun j => S (m + j)) k W))) :
    Calls Tryd.prog 88 #[.pointer (some ⟨b, 0, none⟩), .slice (some ⟨ba, off, none⟩) n cap] w (CombP f X S n w) := by
  have v1 := vanL_len h0 h8 X m
  have v2 := vanL_len h0 h8 (fun j => X (m + j)) k
  have P1 : Hid (∀ (c : List Int) (g3 : Nat) W, CombAt f X S m c → Below w.heap.size w W → Own W g3 c.length (lf c) → Calls Tryd.prog 87 #[.int .i64 f, .slice (some ⟨g3, 0, none⟩) c.length c.length, .slice (some ⟨g2, 0, none⟩) (k + 1) (k + 1)] W (OwnG W (mulL f c (vanL f (fun j => X (m + j)) k)))) := Lib.hid fun c g3 W hc hb ho => by
    have := product_c f (some ⟨g3, 0, none⟩) (some ⟨g2, 0, none⟩) c (vanL f (fun j => X (m + j)) k) c.length (k + 1) W (ht.below hb) h0 h8 (by have := hc.2.1; omega) (by omega) hc.1 (vanL_pol h0 h8 _ _) ho.src (by rw [v2]; exact (hO2.keep hb).src)
    rwa [v2] at this
  have P2 : Hid (∀ (c : List Int) (g3 : Nat) W, CombAt f (fun j => X (m + j)) (fun j => S (m + j)) k c → Below w.heap.size w W → Own W g3 c.length (lf c) → Calls Tryd.prog 87 #[.int .i64 f, .slice (some ⟨g1, 0, none⟩) (m + 1) (m + 1), .slice (some ⟨g3, 0, none⟩) c.length c.length] W (OwnG W (mulL f (vanL f X m) c))) := Lib.hid fun c g3 W hc hb ho => by
    have := product_c f (some ⟨g1, 0, none⟩) (some ⟨g3, 0, none⟩) (vanL f X m) c (m + 1) c.length W (ht.below hb) h0 h8 (by omega) (by have := hc.2.1; omega) (vanL_pol h0 h8 _ _) hc.1 (by rw [v1]; exact (hO1.keep hb).src) ho.src
    rwa [v1] at this
  have PS : Hid (∀ (c e : List Int) (g3 g4 : Nat) W, CombAt f X S m c → CombAt f (fun j => X (m + j)) (fun j => S (m + j)) k e → Below w.heap.size w W → Own W g3 (mulL f c (vanL f (fun j => X (m + j)) k)).length (lf (mulL f c (vanL f (fun j => X (m + j)) k))) → Own W g4 (mulL f (vanL f X m) e).length (lf (mulL f (vanL f X m) e)) → Calls Tryd.prog 111 #[.int .i64 f, .slice (some ⟨g3, 0, none⟩) (mulL f c (vanL f (fun j => X (m + j)) k)).length (mulL f c (vanL f (fun j => X (m + j)) k)).length, .slice (some ⟨g4, 0, none⟩) (mulL f (vanL f X m) e).length (mulL f (vanL f X m) e).length] W (CombP f X S n W)) := Lib.hid fun c e g3 g4 W hc he hb o3 o4 => by
    have l1 := mulL_le f c (vanL f (fun j => X (m + j)) k)
    have l2 := mulL_le f (vanL f X m) e
    have l3 := hc.2.1
    have l4 := he.2.1
    refine (sum_c f _ _ _ _ _ _ W (ht.below hb) h0 h8 (by omega) (by omega) (pol_mulL h0 h8 _ _) (pol_mulL h0 h8 _ _) o3.src o4.src).mono fun _ _ h => ⟨_, ?_, h⟩
    subst hnm
    exact comb_node h0 h8 m1 k1 hc he
  have HF : Hid (∀ e W W', Below w.heap.size w W → CombP f X S n W e W' → CombP f X S n w e W') := Lib.hid fun e W W' hb ⟨c, h1, h2⟩ => ⟨c, h1, h2.up hb⟩
  have b0 : Below w.heap.size w w.drew := (Below.refl _ _).drew
  have a0 : w.cell? ⟨b, 0, none⟩ = some (.int .i64 f) := hN.1
  have a2 : w.cell? ⟨b, 2, none⟩ = some (.pointer (some ⟨b1, 0, none⟩)) := hN.2.2.1
  have a3 : w.cell? ⟨b, 3, none⟩ = some (.pointer (some ⟨b2, 0, none⟩)) := hN.2.2.2
  have a4 : w.cell? ⟨b1, 1, none⟩ = some (.slice (some ⟨g1, 0, none⟩) (m + 1) (m + 1)) := hN1.2.1
  have a5 : w.cell? ⟨b2, 1, none⟩ = some (.slice (some ⟨g2, 0, none⟩) (k + 1) (k + 1)) := hN2.2.1
  have kk : Hid (∀ W, Below w.heap.size w W → W.cell? ⟨b, 2, none⟩ = some (.pointer (some ⟨b1, 0, none⟩)) ∧ W.cell? ⟨b, 3, none⟩ = some (.pointer (some ⟨b2, 0, none⟩)) ∧ W.cell? ⟨b1, 1, none⟩ = some (.slice (some ⟨g1, 0, none⟩) (m + 1) (m + 1)) ∧ W.cell? ⟨b2, 1, none⟩ = some (.slice (some ⟨g2, 0, none⟩) (k + 1) (k + 1))) := Lib.hid fun W hb => ⟨(hN.keep hb hN.lt).2.2.1, (hN.keep hb hN.lt).2.2.2, (hN1.keep hb hN1.lt).2.1, (hN2.keep hb hN2.lt).2.1⟩
  have tok1 : True := trivial
  have tok2 : True := trivial
  have m0 : (0 : Int) ≤ (m : Int) := by omega
  have m2 : (m : Int) ≤ n := by omega
  have m3 : (n : Int) ≤ cap := by omega
  have m4 : (m : Int) ≤ cap := by omega
  have m5 : ¬ cap = m := by omega
  have m6 : ¬ m = 0 := by omega
  clear ht hO1 hO2 hN hN1 hN2 v1 v2 hnm hcap
  generalize vanL f X m = V1 at *
  generalize vanL f (fun j => X (m + j)) k = V2 at *
  go_enter Tryd.func88, Tryd.ntmps88
  go_wp2_with fail
  have k0 := kk.out _ (Below.refl _ _)
  have k1 := kk.out _ b0
  go_region_held3 (fun W1 => W1.cell? ⟨b, 2, none⟩ = some (.pointer (some ⟨b1, 0, none⟩)) ∧ W1.cell? ⟨b, 3, none⟩ = some (.pointer (some ⟨b2, 0, none⟩)) ∧ W1.cell? ⟨b1, 1, none⟩ = some (.slice (some ⟨g1, 0, none⟩) (m + 1) (m + 1)) ∧ W1.cell? ⟨b2, 1, none⟩ = some (.slice (some ⟨g2, 0, none⟩) (k + 1) (k + 1)))
    (first | exact k0 | exact k1 | exact k2 | exact k3 | go_keep)
    (first
      | (go_at_call 88; clear tok1; refine (CL.out _ b0).mono ?_; rintro e w1 ⟨cl, hcl, g3, rfl, hg3, o3, b3⟩; have b4 := below_up b0 b3 b0.size; have k2 := kk.out _ b4)
      | (go_at_call 88; refine (CR.out _ b4).mono ?_; rintro e w2 ⟨cr, hcr, g4, rfl, hg4, o4, b5⟩; have b6 := below_up b4 b5 b4.size; have k3 := kk.out _ b6))
  have o5 : Own w2.drew g3 cl.length (lf cl) := o3.keep b5.drew
  have o6 : Own w2.drew g4 cr.length (lf cr) := o4
  have b7 : Below w.heap.size w w2.drew := b6.drew
  have k4 := kk.out _ b7
  clear k0 k1 k2 a0 a2 a3 a4 a5 CL CR b0 b3 b4 b5 o3 o4
  go_wp2_with fail
  go_region_held3 (fun W1 => W1.cell? ⟨b, 2, none⟩ = some (.pointer (some ⟨b1, 0, none⟩)) ∧ W1.cell? ⟨b, 3, none⟩ = some (.pointer (some ⟨b2, 0, none⟩)) ∧ W1.cell? ⟨b1, 1, none⟩ = some (.slice (some ⟨g1, 0, none⟩) (m + 1) (m + 1)) ∧ W1.cell? ⟨b2, 1, none⟩ = some (.slice (some ⟨g2, 0, none⟩) (k + 1) (k + 1)))
    (first | exact k3 | exact k4 | exact k5 | exact k6 | exact k7 | go_keep)
    (first
      | (go_at_call 87; clear tok2; refine (P1.out cl g3 _ hcl b7 o5).mono ?_; rintro e w3 ⟨g5, rfl, hg5, o7, b8⟩; have b9 := below_up b7 b8 b7.size; have k5 := kk.out _ b9; have o8 := o6.keep b8)
      | (go_at_call 87; refine (P2.out cr g4 _ hcr b9 o8).mono ?_; rintro e w4 ⟨g6, rfl, hg6, o9, b10⟩; have b11 := below_up b9 b10 b9.size; have k6 := kk.out _ b11; have o10 := o7.keep b10)
      | (go_at_call 111; refine (PS.out cl cr g5 g6 _ hcl hcr b11 o10 o9).mono ?_; intro e w5 h5; have HR := Lib.hid (HF.out _ _ _ b11 h5); obtain ⟨c5, _, g7, rfl, _, _, b12⟩ := h5; have k7 := kk.out _ (below_up b11 b12 b11.size)))
  clear k3 k4 k5 k6 k7 o5 o6 o7 o8 o9 o10 P1 P2 PS HF kk b7 b8 b9 b10 b11 b12
  go_wp2
  go_ret
  exact HR.out
theorem comb_c (f : Int) (h0 : 0 ≤ f) (h8 : f ≤ 8) : ∀ (d : Nat) (p : Option Addr) (X S : Nat → Int) (n : Nat) (aa : Option Addr) (cap : Nat) (w : World), TreeW f w d p X n → 1 ≤ n → n ≤ 40 → n ≤ cap → Tab w → (∀ j, j < n → 0 ≤ S j ∧ S j < P f) → Src w aa n S → Calls Tryd.prog 88 #[.pointer p, .slice aa n cap] w (CombP f X S n w) := by
  intro d
  induction d with
  | zero => intro p X S n aa cap w h; exact absurd h (by intro h; exact h)
  | succ d ih =>
    rintro p X S n aa cap w ⟨b, g, pl, pr, rfl, hN, hO, hb⟩ n1 h40 hcap ht hS hs
    rcases hb with ⟨rfl, rfl, rfl⟩ | ⟨m, k, rfl, m1, k1, hL, hR⟩
    · exact comb_leaf_c f h0 h8 b g X S aa cap w hN (hS 0 (by omega)) hs
    · obtain ⟨ba, off, rfl, hlt, hc⟩ : ∃ ba off, aa = some ⟨ba, off, none⟩ ∧ ba < w.heap.size ∧ ∀ j, j < m + k → w.cell? ⟨ba, off + j, none⟩ = some (.int .i64 (S j)) := by
        rcases hs with h | h
        · omega
        · exact h
      have hL0 := hL
      have hR0 := hR
      cases d with
      | zero => exact absurd hL (by intro h; exact h)
      | succ d =>
        obtain ⟨b1, g1, pl1, pr1, rfl, hN1, hO1, _⟩ := hL0
        obtain ⟨b2, g2, pl2, pr2, rfl, hN2, hO2, _⟩ := hR0
        refine comb_node_c f h0 h8 b g (m + k) m k b1 g1 b2 g2 ba off cap pl1 pr1 pl2 pr2 X S w m1 k1 rfl h40 hcap hN hN1 hN2 hO1 hO2 ht (Lib.hid fun W hb => ?_) (Lib.hid fun W hb => ?_)
        · exact ih _ X S m _ cap W (hL.keep hb) m1 (by omega) (by omega) (ht.below hb) (fun j hj => hS j (by omega)) (.inr ⟨ba, off, rfl, Nat.lt_of_lt_of_le hlt hb.size, fun j hj => (hb.cell (p := ⟨ba, off + j, none⟩) hlt).trans (hc j (by omega))⟩)
        · rw [show m + k - m = k by omega]
          exact ih _ (fun j => X (m + j)) (fun j => S (m + j)) k _ (cap - m) W (hR.keep hb) k1 (by omega) (by omega) (ht.below hb) (fun j hj => hS (m + j) (by omega)) (.inr ⟨ba, off + m, rfl, Nat.lt_of_lt_of_le hlt hb.size, fun j hj => (hb.cell (p := ⟨ba, off + m + j, none⟩) hlt).trans (by rw [show off + m + j = off + (m + j) by omega]; exact hc (m + j) (by omega))⟩)
set_option maxRecDepth 100000 in
theorem pointwise_u (f : Int) (b off b2 off2 n cap cap2 : Nat) (A B : Nat → Int) (w : World) (ht : Tab w) (h0 : 0 ≤ f) (h8 : f ≤ 8) (hn : n ≤ 1048576) (hA : ∀ j, j < n → 0 ≤ A j ∧ A j < P f) (hB : ∀ j, j < n → 0 ≤ B j ∧ B j < P f) (hlt : b < w.heap.size) (hlt2 : b2 < w.heap.size)
    (hc : ∀ j, j < n → w.cell? ⟨b, off + j, none⟩ = some (.int .i64 (A j))) (hc2 : ∀ j, j < n → w.cell? ⟨b2, off2 + j, none⟩ = some (.int .i64 (B j))) :
    Calls Tryd.prog 89 #[.int .i64 f, .slice (some ⟨b, off, none⟩) n cap, .slice (some ⟨b2, off2, none⟩) n cap2] w (CopyP w n (fun j => RS (A j * B j) (P f))) := by
  have hp := P_bd h0 h8
  refine (pointwise_some f b off b2 off2 n cap cap2 (fun j => if j < n then A j else 0) (fun j => if j < n then B j else 0) w ht h0 h8 hn (fun j => ?_) (fun j => ?_) hlt hlt2 (fun j hj => by rw [hc j hj, if_pos hj]) (fun j hj => by rw [hc2 j hj, if_pos hj])).mono fun e w' h => ⟨h.1, own_congr h.2.1 rfl (fun j hj => by simp [hj]), h.2.2⟩
  · by_cases h : j < n
    · simp only [h, if_true]; exact hA j h
    · simp only [h, if_false]; omega
  · by_cases h : j < n
    · simp only [h, if_true]; exact hB j h
    · simp only [h, if_false]; omega
set_option maxRecDepth 100000 in
set_option maxHeartbeats 3200000 in
theorem through_u (f : Int) (h0 : 0 ≤ f) (h8 : f ≤ 8) (b g n : Nat) (pl pr : Option Addr) (X Y : Nat → Int) (aa : Option Addr) (cap : Nat) (w : World) (hT : TreeW f w n (some ⟨b, 0, none⟩) X n) (hN : NodeW w b f g n pl pr) (hO : Own w g (n + 1) (lf (vanL f X n))) (n1 : 1 ≤ n) (h40 : n ≤ 40) (ht : Tab w) (hd : DistinctS f X n) (hY : ∀ j, j < n → 0 ≤ Y j ∧ Y j < P f) (hs : Src w aa n Y) :
    Calls Tryd.prog 56 #[.pointer (some ⟨b, 0, none⟩), .slice aa n cap] w (OwnG w (interL f X Y n)) := by
  have hp := P_bd h0 h8
  obtain ⟨ba, off, rfl, hlt, hc⟩ : ∃ ba off, aa = some ⟨ba, off, none⟩ ∧ ba < w.heap.size ∧ ∀ j, j < n → w.cell? ⟨ba, off + j, none⟩ = some (.int .i64 (Y j)) := by
    rcases hs with h | h
    · omega
    · exact h
  have PW2 : Hid (∀ W, Below w.heap.size w W → Calls Tryd.prog 64 #[.pointer (some ⟨b, 0, none⟩)] W (fun e w' => ∃ g1, e = .returned (.slice (some ⟨g1, 0, none⟩) n n) ∧ W.heap.size ≤ g1 ∧ Own w' g1 n (fun i => mPower f (byF f X i n) (-1)) ∧ Below W.heap.size W w')) := Lib.hid fun W hb => by
    refine (weights_c f h0 h8 n b g n pl pr X W (hT.keep hb) (hN.keep hb hN.lt) (hO.keep hb) n1 h40 (ht.below hb) hd).mono fun e w' h => ?_
    obtain ⟨g1, h1, h2, h3, h4⟩ := h
    rw [wtX_len] at h1 h3
    exact ⟨g1, h1, h2, own_congr h3 rfl (fun j hj => by unfold wtX; rw [lf_tab, if_pos hj]), h4⟩
  have PT : Hid (∀ (g1 : Nat) W, Below w.heap.size w W → Own W g1 n (fun i => mPower f (byF f X i n) (-1)) → Calls Tryd.prog 89 #[.int .i64 f, .slice (some ⟨ba, off, none⟩) n cap, .slice (some ⟨g1, 0, none⟩) n n] W (fun e w' => ∃ g2, e = .returned (.slice (some ⟨g2, 0, none⟩) n n) ∧ W.heap.size ≤ g2 ∧ Own w' g2 n (fun j => RS (Y j * mPower f (byF f X j n) (-1)) (P f)) ∧ Below W.heap.size W w')) := Lib.hid fun g1 W hb ho => by
    refine (pointwise_u f ba off g1 0 n cap n Y _ W (ht.below hb) h0 h8 (by omega) hY (fun j hj => ?_) (Nat.lt_of_lt_of_le hlt hb.size) ho.lt (fun j hj => (hb.cell (p := ⟨ba, off + j, none⟩) hlt).trans (hc j hj)) (fun j hj => by rw [Nat.zero_add]; exact ho.cell hj)).mono fun e w' h => ?_
    · have hne := byF_ne h0 h8 hd hj
      have hb2 := byF_bd h0 h8 X j n
      exact inv_bd h0 h8 (by
        rcases Int.lt_or_eq_of_le hb2.1 with h | h
        · exact h
        · exact absurd (by rw [← h]; exact Int.zero_emod _) hne) hb2.2
    · obtain ⟨h1, h2, h3⟩ := h
      exact ⟨_, h1, Nat.le_refl _, h2, h3⟩
  have PC : Hid (∀ (g2 : Nat) W, Below w.heap.size w W → Own W g2 n (fun j => RS (Y j * mPower f (byF f X j n) (-1)) (P f)) → Calls Tryd.prog 88 #[.pointer (some ⟨b, 0, none⟩), .slice (some ⟨g2, 0, none⟩) n n] W (OwnG W (interL f X Y n))) := Lib.hid fun g2 W hb ho => by
    refine (comb_c f h0 h8 n _ X _ n _ n W (hT.keep hb) n1 h40 (Nat.le_refl _) (ht.below hb) (fun j _ => RS_bd (by omega)) ho.src).mono fun e w' h => ?_
    obtain ⟨c, h1, h2⟩ := h
    rwa [comb_inter h0 h8 hd hY h1] at h2
  have HF : Hid (∀ e W W', Below w.heap.size w W → OwnG W (interL f X Y n) e W' → OwnG w (interL f X Y n) e W') := Lib.hid fun e W W' hb h => h.up hb
  have b0 : Below w.heap.size w w.drew := (Below.refl _ _).drew
  have kk : Hid (∀ W, Below w.heap.size w W → W.cell? ⟨b, 0, none⟩ = some (.int .i64 f)) := Lib.hid fun W hb => (hN.keep hb hN.lt).1
  clear hT hN hO ht hd hY hs hc
  generalize interL f X Y n = V at *
  go_enter Tryd.func56, Tryd.ntmps56
  go_wp2_with fail
  have k0 := kk.out _ (Below.refl _ _)
  have k1 := kk.out _ b0
  go_region_held3 (fun W1 => W1.cell? ⟨b, 0, none⟩ = some (.int .i64 f))
    (first | exact k0 | exact k1 | exact k2 | exact k3 | exact k4 | go_keep)
    (first
      | (go_at_call 64; refine (PW2.out _ b0).mono ?_; rintro e w1 ⟨g1, rfl, hg1, o1, b1⟩; have b2 := below_up b0 b1 b0.size; have k2 := kk.out _ b2)
      | (go_at_call 89; refine (PT.out g1 _ b2 o1).mono ?_; rintro e w2 ⟨g2, rfl, hg2, o2, b3⟩; have b4 := below_up b2 b3 b2.size; have k3 := kk.out _ b4)
      | (go_at_call 88; refine (PC.out g2 _ b4 o2).mono ?_; intro e w3 h3; have HR := Lib.hid (HF.out _ _ _ b4 h3); obtain ⟨g3, rfl, hg3, o3, b5⟩ := h3; have k4 := kk.out _ (below_up b4 b5 b4.size)))
  clear k0 k1 k2 k3 k4 o1 o2 o3 PW2 PT PC HF kk b1 b3 b5
  go_wp2
  go_ret
  exact HR.out
end Go.Proofs.YtangofjpnhhfeabDoor
namespace Go.Proofs.YtangofjpnhhfeabDoor
open Go.RowKit
set_option maxRecDepth 100000 in
theorem index_some (b off n cap : Nat) (F : Nat → Int) (x : Int) (w : World) (hn : n ≤ 1048576) (hc : ∀ j, j < n → w.cell? ⟨b, off + j, none⟩ = some (.int .i64 (F j))) : Calls Tryd.prog 108 #[.slice (some ⟨b, off, none⟩) n cap, .int .i64 x] w fun e w' => ∃ v : Int, e = .returned (.int .i64 v) ∧ decide (0 ≤ v) = hasF F n x ∧ w = w' := by
  have HC := Lib.hid hc
  have HY : Hid (∀ j, j < n → x = F j → hasF F n x = true) := Lib.hid fun j h e => hasF_yes h e.symm
  have HN : Hid ((∀ j, j < n → F j ≠ x) → hasF F n x = false) := Lib.hid hasF_no
  clear hc
  generalize hasF F n x = R at *
  go_enter Tryd.func108, Tryd.ntmps108
  go_wp2_with fail
  go_loopw [8] (fun iv wr => ∃ i : Nat, iv = .int .i64 i ∧ i ≤ n ∧ Hid (∀ j, j < i → F j ≠ x) ∧ w = wr) (fun iv _ => n - (intOf iv).toNat)
  case atStart => exact ⟨0, rfl, Nat.zero_le _, Lib.hid fun j hj => by omega, rfl⟩
  case round =>
    obtain ⟨i, rfl, hi, HP, rfl⟩ := hrel
    by_cases h1 : i < n
    · have hd1 : decide ((i : Int) < n) = true := decide_eq_true (by omega)
      have c1 := HC.out i h1
      have hi2 : (i : Int) < n := by omega
      by_cases h2 : x = F i
      · have hd2 : (x == F i) = true := by rw [beq_iff_eq]; exact h2
        have HR := Lib.hid (HY.out i h1 h2)
        clear h2
        go_wp2
        go_ret
        exact ⟨i, rfl, by rw [HR.out]; simp, rfl⟩
      · have hd2 : (x == F i) = false := by rw [beq_eq_false_iff_ne]; exact h2
        have HP2 : Hid (∀ j, j < i + 1 → F j ≠ x) := Lib.hid fun j hj => by
          by_cases e : j < i
          · exact HP.out j e
          · obtain rfl : j = i := by omega
            exact fun e => h2 e.symm
        clear h2 HP
        go_wp2
        go_roundw
        case rel => exact ⟨i + 1, by go_num, by omega, HP2, trivial⟩
        case measure => simp [intOf]; omega
    · have hd1 : decide ((i : Int) < n) = false := decide_eq_false (by omega)
      obtain rfl : i = n := by omega
      have HR := Lib.hid (HN.out HP.out)
      clear HP
      go_wp2
      go_ret
      exact ⟨-1, rfl, by rw [HR.out]; rfl, rfl⟩
theorem index_none (a : Option Addr) (cap : Nat) (F : Nat → Int) (x : Int) (w : World) : Calls Tryd.prog 108 #[.slice a 0 cap, .int .i64 x] w fun e w' => ∃ v : Int, e = .returned (.int .i64 v) ∧ decide (0 ≤ v) = hasF F 0 x ∧ w = w' := by
  have HR : Hid (hasF F 0 x = false) := Lib.hid (hasF_no fun j hj => by omega)
  go_enter Tryd.func108, Tryd.ntmps108
  go_wp2
  refine wp_loop_rounds 1 ?_
  rw [rounds_succ]
  go_wp2
  go_ret
  exact ⟨-1, rfl, by rw [HR.out]; rfl, rfl⟩
theorem contains_c (a : Option Addr) (n cap : Nat) (F : Nat → Int) (x : Int) (w : World) (hn : n ≤ 1048576) (hs : Src w a n F) : Calls Tryd.prog 79 #[.slice a n cap, .int .i64 x] w (SameB w (hasF F n x)) := by
  have HI : Hid (Calls Tryd.prog 108 #[.slice a n cap, .int .i64 x] w fun e w' => ∃ v : Int, e = .returned (.int .i64 v) ∧ decide (0 ≤ v) = hasF F n x ∧ w = w') := Lib.hid (by
    rcases hs with rfl | ⟨b, off, rfl, hlt, hc⟩
    · exact index_none a cap F x w
    · exact index_some b off n cap F x w hn hc)
  clear hs
  generalize hasF F n x = R at *
  go_enter Tryd.func79, Tryd.ntmps79
  go_wp2_with fail
  refine HI.out.mono ?_
  rintro e w' ⟨v, rfl, hv, rfl⟩
  go_wp2
  go_ret
  exact ⟨rfl, rfl⟩
set_option maxRecDepth 100000 in
set_option maxHeartbeats 1600000 in
theorem iPointsOk_in (f : Int) (b off n cap : Nat) (F : Nat → Int) (w : World) (B : Bool) (h0 : 0 ≤ f) (h8 : f ≤ 8) (n1 : 1 ≤ n) (h40 : n ≤ 40) (hcap : n ≤ cap) (hlt : b < w.heap.size) (hc : ∀ j, j < n → w.cell? ⟨b, off + j, none⟩ = some (.int .i64 (F j)))
    (HA : Hid (Calls Tryd.prog 54 #[.int .i64 f, .slice (some ⟨b, off, none⟩) n cap] w (SameB w true))) (HN : Hid (∀ i, i < n → hasF F i (F i) = true → B = false)) (HY : Hid ((∀ i, i < n → hasF F i (F i) = false) → B = true)) :
    Calls Tryd.prog 53 #[.int .i64 f, .slice (some ⟨b, off, none⟩) n cap] w (SameB w B) := by
  have HC := Lib.hid hc
  have hd0 : decide ((n : Int) < 1) = false := decide_eq_false (by omega)
  have hd1 : decide ((40 : Int) < n) = false := decide_eq_false (by omega)
  clear hc
  go_enter Tryd.func53, Tryd.ntmps53
  go_wp2_with fail
  refine (known_yes f w h0 h8).mono ?_
  rintro e w' ⟨rfl, rfl⟩
  go_wp2_with fail
  refine HA.out.mono ?_
  rintro e w' ⟨rfl, rfl⟩
  go_wp2_with fail
  go_loop [30] (fun iv => ∃ i : Nat, iv = .int .i64 i ∧ i ≤ n ∧ Hid (∀ k, k < i → hasF F k (F k) = false)) (fun iv => n - (intOf iv).toNat)
  case atStart => exact ⟨0, rfl, Nat.zero_le _, Lib.hid fun k hk => by omega⟩
  case round =>
    obtain ⟨i, rfl, hi, HP⟩ := hrel
    by_cases h1 : i < n
    · have hd2 : decide ((i : Int) < n) = true := decide_eq_true (by omega)
      have c1 := HC.out i h1
      have hi0 : (0 : Int) ≤ (i : Int) := by omega
      have hi2 : (i : Int) < n := by omega
      have hi3 : (i : Int) ≤ cap := by omega
      have HH := Lib.hid (contains_c (some ⟨b, off, none⟩) i cap F (F i) w (by omega) (.inr ⟨b, off, rfl, hlt, fun j hj => HC.out j (by omega)⟩))
      cases hB : hasF F i (F i)
      · rw [hB] at HH
        have HP2 : Hid (∀ k, k < i + 1 → hasF F k (F k) = false) := Lib.hid fun k hk => by
          by_cases e : k < i
          · exact HP.out k e
          · obtain rfl : k = i := by omega
            exact hB
        clear hB HP
        go_wp2_with fail
        refine HH.out.mono ?_
        rintro e w' ⟨rfl, rfl⟩
        go_wp2
        go_round
        case rel => exact ⟨i + 1, by go_num, by omega, HP2⟩
        case measure => simp [intOf]; omega
      · rw [hB] at HH
        have HR := Lib.hid (HN.out i h1 hB)
        clear hB HP
        go_wp2_with fail
        refine HH.out.mono ?_
        rintro e w' ⟨rfl, rfl⟩
        go_wp2
        go_ret
        exact ⟨by rw [HR.out]; rfl, rfl⟩
    · have hd2 : decide ((i : Int) < n) = false := decide_eq_false (by omega)
      obtain rfl : i = n := by omega
      have HR := Lib.hid (HY.out HP.out)
      clear HP
      go_wp2
      go_ret
      exact ⟨by rw [HR.out]; rfl, rfl⟩
set_option maxRecDepth 100000 in
theorem iPointsOk (f : Int) (a : Option Addr) (l : List Int) (cap : Nat) (w : World) (hn : l.length ≤ 1048576) (hs : SrcC w a l.length cap (lf l)) (ht : Tab w) : Calls Tryd.prog 53 #[.int .i64 f, .slice a l.length cap] w (SameB w (mPointsOk f l)) := by
  by_cases hf : 0 ≤ f ∧ f ≤ 8
  · obtain ⟨h0, h8⟩ := hf
    by_cases h1 : 1 ≤ l.length
    · by_cases h40 : l.length ≤ 40
      · by_cases hall : AllIn f l
        · have H1 := Lib.hid (hasAll_c f a l cap w ht h0 h8 hn hs.src true (by simp [hall]))
          obtain ⟨b, off, rfl, hlt, hc⟩ : ∃ b off, a = some ⟨b, off, none⟩ ∧ b < w.heap.size ∧ ∀ j, j < l.length → w.cell? ⟨b, off + j, none⟩ = some (.int .i64 (lf l j)) := by
            rcases hs.2 with h | h
            · omega
            · exact h
          refine iPointsOk_in f b off l.length cap (lf l) w (mPointsOk f l) h0 h8 h1 h40 hs.1 hlt hc H1 (Lib.hid fun i hi he => pts_not.2 fun hp => ?_) (Lib.hid fun h => pts_iff.2 ⟨⟨h0, h8⟩, ⟨h1, h40⟩, hall, fun i j hij hj e => ?_⟩)
          · unfold hasF at he
            simp only [decide_eq_true_eq] at he
            obtain ⟨j, hj, e⟩ := he
            exact hp.2.2.2 j i hj hi e
          · have := h j hj
            rw [hasF_yes hij e] at this
            cases this
        · have H1 := Lib.hid (hasAll_c f a l cap w ht h0 h8 hn hs.src false (by simp [hall]))
          have HB : Hid (mPointsOk f l = false) := Lib.hid (pts_not.2 fun h => hall h.2.2.1)
          have hd0 : decide ((l.length : Int) < 1) = false := decide_eq_false (by omega)
          have hd1 : decide ((40 : Int) < l.length) = false := decide_eq_false (by omega)
          rw [HB.out]
          clear hs hall HB h1 h40
          go_enter Tryd.func53, Tryd.ntmps53
          go_wp2_with fail
          refine (known_yes f w h0 h8).mono ?_
          rintro e w' ⟨rfl, rfl⟩
          go_wp2_with fail
          refine H1.out.mono ?_
          rintro e w' ⟨rfl, rfl⟩
          go_wp2
          go_ret
          exact ⟨rfl, rfl⟩
      · rw [pts_not.2 fun h => h40 h.2.1.2]
        have hd0 : decide ((l.length : Int) < 1) = false := decide_eq_false (by omega)
        have hd1 : decide ((40 : Int) < l.length) = true := decide_eq_true (by omega)
        clear hs h1 h40
        go_enter Tryd.func53, Tryd.ntmps53
        go_wp2_with fail
        refine (known_yes f w h0 h8).mono ?_
        rintro e w' ⟨rfl, rfl⟩
        go_wp2
        go_ret
        exact ⟨rfl, rfl⟩
    · rw [pts_not.2 fun h => h1 h.2.1.1]
      obtain ⟨N, hN⟩ : ∃ N, l.length = N := ⟨_, rfl⟩
      rw [hN]
      have hd0 : decide ((N : Int) < 1) = true := decide_eq_true (by omega)
      clear hs h1 hn hN
      go_enter Tryd.func53, Tryd.ntmps53
      go_wp2_with fail
      refine (known_yes f w h0 h8).mono ?_
      rintro e w' ⟨rfl, rfl⟩
      go_wp2
      go_ret
      exact ⟨rfl, rfl⟩
  · rw [pts_not.2 fun h => hf h.1]
    clear hs
    go_enter Tryd.func53, Tryd.ntmps53
    go_wp2_with fail
    refine (known_no f w (by omega)).mono ?_
    rintro e w' ⟨rfl, rfl⟩
    go_wp2
    go_ret
    exact ⟨rfl, rfl⟩
/-- A list in memory of its own, in a row that may have room. -/
def OwnM (w : World) (B : Nat) (a : Option Addr) (l : List Int) (cap : Nat) : Prop :=
  (a = none ∧ cap = 0 ∧ l.length = 0) ∨ ∃ g, a = some ⟨g, 0, none⟩ ∧ B ≤ g ∧ OwnV w g l.length cap (lf l)
theorem OwnM.src {w : World} {B : Nat} {a : Option Addr} {l : List Int} {cap : Nat} (h : OwnM w B a l cap) : Src w a l.length (lf l) := by
  rcases h with ⟨_, _, h⟩ | ⟨g, rfl, _, h⟩
  · exact .inl h
  · exact h.src
theorem OwnM.srcC {w : World} {B : Nat} {a : Option Addr} {l : List Int} {cap : Nat} (h : OwnM w B a l cap) : SrcC w a l.length cap (lf l) := by
  refine ⟨?_, h.src⟩
  rcases h with ⟨_, h1, h⟩ | ⟨g, rfl, _, _, _, h, _⟩
  · omega
  · exact h
theorem OwnM.keep {w w' : World} {B : Nat} {a : Option Addr} {l : List Int} {cap : Nat} (h : OwnM w B a l cap) (hb : Below w.heap.size w w') : OwnM w' B a l cap :=
  h.imp id fun ⟨g, h1, h2, h3⟩ => ⟨g, h1, h2, h3.keep hb⟩
theorem OwnM.low {w : World} {B B' : Nat} {a : Option Addr} {l : List Int} {cap : Nat} (h : OwnM w B a l cap) (hB : B' ≤ B) : OwnM w B' a l cap :=
  h.imp id fun ⟨g, h1, h2, h3⟩ => ⟨g, h1, Nat.le_trans hB h2, h3⟩
theorem own_to_v {w : World} {g n : Nat} {F : Nat → Int} (h : Own w g n F) : OwnV w g n n F := ⟨_, h, Nat.le_refl _, fun _ _ => rfl⟩
theorem OwnA.m {w : World} {B : Nat} {a : Option Addr} {l : List Int} {cap : Nat} (h : OwnA w B a l cap) : OwnM w B a l cap := by
  rcases h with h | ⟨g, rfl, rfl, hB, h⟩
  · exact .inl h
  · exact .inr ⟨g, rfl, hB, own_to_v h⟩
theorem v_of_block {w w' : World} {g n cap : Nat} {F : Nat → Int} (h : OwnV w g n cap F) (hb : w'.heap[g]? = w.heap[g]?) : OwnV w' g n cap F := by
  obtain ⟨V, h1, h2, h3⟩ := h
  exact ⟨V, World.rowIs.of_block h1 hb, h2, h3⟩
theorem OwnM.after {w w' : World} {B cap : Nat} {a a2 : Option Addr} {l : List Int} (h : OwnM w B a2 l cap) (hg : Grow w w' a) (hl : Lies a B) : OwnM w' B a2 l cap := by
  rcases hg with rfl | ⟨g, rfl, hg⟩
  · exact h
  · have := hl _ rfl
    refine h.imp id fun ⟨g2, h1, h2, h3⟩ => ⟨g2, h1, h2, v_of_block h3 (hg.block g2 h3.lt (fun e => ?_))⟩
    injection e with e
    have : g < B := this
    omega
def OwnLM (w : World) (l : List Int) (e : Ending) (w' : World) : Prop := ∃ a cap, e = .returned (.slice a l.length cap) ∧ OwnM w' w.heap.size a l cap ∧ Below w.heap.size w w'
theorem OwnL.m {w w' : World} {l : List Int} {e : Ending} (h : OwnL w l e w') : OwnLM w l e w' := by
  obtain ⟨a, cap, h1, h2, h3⟩ := h
  exact ⟨a, cap, h1, h2.m, h3⟩
theorem OwnsL.m {w w' : World} {l : List Int} {e : Ending} (h : OwnsL w l e w') : OwnLM w l e w' := by
  obtain ⟨v, rfl, ho, hb⟩ := h
  by_cases hz : l.length = 0
  · rcases ho.2 with ⟨rfl, _⟩ | ⟨g, cap, cur, rfl, hg, hh, hc, hm, hs, _⟩
    · exact ⟨none, 0, by rw [hz], .inl ⟨rfl, rfl, hz⟩, hb⟩
    · refine ⟨some ⟨g, 0, none⟩, cap, rfl, .inr ⟨g, rfl, hg, fun j => (cur[j]?).getD .nilIface, ⟨cur, hh, by omega, fun j hj => ?_⟩, by omega, fun j hj => by omega⟩, hb⟩
      have : j < cur.size := by omega
      simp [this]
  · obtain ⟨g, cap, rfl, hg, hv⟩ := OwnV.of_owns ho hz
    exact ⟨some ⟨g, 0, none⟩, cap, rfl, .inr ⟨g, rfl, hg, hv⟩, hb⟩
theorem nil_m {w w' : World} {l : List Int} (hl : l = []) (hb : Below w.heap.size w w') : OwnLM w l (.returned (.slice none 0 0)) w' := by
  subst hl
  exact ⟨none, 0, rfl, .inl ⟨rfl, rfl, rfl⟩, hb⟩
end Go.Proofs.YtangofjpnhhfeabDoor
namespace Go.Proofs.YtangofjpnhhfeabDoor
open Go.RowKit
theorem tree_pts (f : Int) (a : Option Addr) (l : List Int) (cap : Nat) (w : World) (hs : SrcC w a l.length cap (lf l)) (ht : Tab w) (h : PtsOk f l) : Calls Tryd.prog 55 #[.int .i64 f, .slice a l.length cap] w (TreeR f l.length (lf l) w) :=
  tree_c f h.1.1 h.1.2 l.length a cap (lf l) w ht h.2.1.1 h.2.1.2 hs.1 h.2.2.1 hs.2
end Go.Proofs.YtangofjpnhhfeabDoor
namespace Go.Proofs.YtangofjpnhhfeabDoor
open Go.RowKit
set_option maxRecDepth 100000 in
theorem isCode_c (f : Int) (a : Option Addr) (l : List Int) (cap : Nat) (k : Int) (w : World) (hn : l.length ≤ 1048576) (hs : SrcC w a l.length cap (lf l)) (ht : Tab w) : Calls Tryd.prog 48 #[.int .i64 f, .slice a l.length cap, .int .i64 k] w (SameB w (mCode f l k)) := by
  have HP := Lib.hid (iPointsOk f a l cap w hn hs ht)
  clear hs ht
  by_cases h1 : l.length ≤ 10
  · have hd1 : decide ((l.length : Int) ≤ 10) = true := decide_eq_true (by omega)
    by_cases h2 : PtsOk f l
    · rw [pts_iff.2 h2] at HP
      by_cases h3 : 1 ≤ k
      · have hd3 : decide ((1 : Int) ≤ k) = true := decide_eq_true h3
        have HR : Hid (mCode f l k = decide (k ≤ (l.length : Int))) := Lib.hid (by
          by_cases h4 : k ≤ (l.length : Int)
          · rw [decide_eq_true h4, code_iff.2 ⟨h1, h2, h3, h4⟩]
          · rw [decide_eq_false h4, code_not.2 fun h => h4 h.2.2.2])
        rw [HR.out]
        clear h1 h2 HR
        generalize l.length = n at *
        obtain ⟨B, hB⟩ : ∃ B, decide (k ≤ (n : Int)) = B := ⟨_, rfl⟩
        go_enter Tryd.func48, Tryd.ntmps48
        go_wp2_with fail
        refine HP.out.mono ?_
        rintro e w' ⟨rfl, rfl⟩
        go_wp2
        go_ret
        exact ⟨by rw [hB]; rfl, rfl⟩
      · have hd3 : decide ((1 : Int) ≤ k) = false := decide_eq_false h3
        rw [code_not.2 fun h => h3 h.2.2.1]
        clear h1 h2 h3
        go_enter Tryd.func48, Tryd.ntmps48
        go_wp2_with fail
        refine HP.out.mono ?_
        rintro e w' ⟨rfl, rfl⟩
        go_wp2
        go_ret
        exact ⟨rfl, rfl⟩
    · rw [pts_not.2 h2] at HP
      rw [code_not.2 fun h => h2 h.2.1]
      clear h1 h2
      go_enter Tryd.func48, Tryd.ntmps48
      go_wp2_with fail
      refine HP.out.mono ?_
      rintro e w' ⟨rfl, rfl⟩
      go_wp2
      go_ret
      exact ⟨rfl, rfl⟩
  · have hd1 : decide ((l.length : Int) ≤ 10) = false := decide_eq_false (by omega)
    rw [code_not.2 fun h => h1 h.1]
    clear h1 HP
    go_enter Tryd.func48, Tryd.ntmps48
    go_wp2
    go_ret
    exact ⟨rfl, rfl⟩
set_option maxRecDepth 100000 in
theorem iEncodeWord (f : Int) (a : Option Addr) (l : List Int) (cap : Nat) (a2 : Option Addr) (m : List Int) (cap2 : Nat) (w : World) (hn : l.length ≤ 1048576) (hn2 : m.length ≤ 1048576) (hs : SrcC w a l.length cap (lf l)) (hs2 : SrcC w a2 m.length cap2 (lf m)) (ht : Tab w) : Calls Tryd.prog 39 #[.int .i64 f, .slice a l.length cap, .slice a2 m.length cap2] w (OwnLM w (mEncodeWord f l m)) := by
  have HC := Lib.hid (isCode_c f a l cap m.length w hn hs ht)
  by_cases h1 : CodeOk f l (m.length : Int)
  · have hf := h1.2.1.1
    have hk : m.length ≤ 10 := by have := h1.1; have := h1.2.2.2; omega
    rw [code_iff.2 h1] at HC
    by_cases h2 : ElsOk f m
    · have HA := Lib.hid (hasAll_c f a2 m cap2 w ht hf.1 hf.2 hn2 hs2.src true (by simp; exact h2))
      have HT := Lib.hid (tree_pts f a l cap w hs ht h1.2.1)
      have HP : Hid (∀ w1, Below w.heap.size w w1 → Calls Tryd.prog 71 #[.slice a2 m.length cap2] w1 (OwnG w1 (cutL m.length (lf m)))) := Lib.hid fun w1 hb => poly_c a2 m.length cap2 (lf m) w1 hn2 (hs2.src.keep hb)
      have HV : Hid (∀ (b g1 : Nat) (w1 w2 : World), TreeW f w1 l.length (some ⟨b, 0, none⟩) (lf l) l.length → Below w.heap.size w w1 → Below w1.heap.size w1 w2 → Own w2 g1 (cutL m.length (lf m)).length (lf (cutL m.length (lf m))) → Calls Tryd.prog 58 #[.pointer (some ⟨b, 0, none⟩), .slice (some ⟨g1, 0, none⟩) (cutL m.length (lf m)).length (cutL m.length (lf m)).length] w2 (OwnLM w (mEncodeWord f l m))) := Lib.hid fun b g1 w1 w2 hT hb hb2 ho => by
        have hb3 := below_up hb hb2 hb.size
        have hle := cutL_le m.length (lf m)
        refine (values_c f hf.1 hf.2 l.length _ (lf l) l.length _ (cutL m.length (lf m)) _ w2 (hT.keep hb2) h1.2.1.2.1.2 (ht.below hb3) (msg_pol hf.1 hf.2 rfl h2) (by omega) ho.src).mono fun e w' h4 => ?_
        have h5 := (h4.up hb3 hb3.size).m
        rw [vals_enc rfl] at h5
        unfold mEncodeWord
        rw [if_pos ⟨h1, h2⟩]
        exact h5
      clear hs hs2 ht h1 h2
      generalize mEncodeWord f l m = R at *
      generalize cutL m.length (lf m) = V at *
      go_enter Tryd.func39, Tryd.ntmps39
      go_wp2_with fail
      refine HC.out.mono ?_
      rintro e w' ⟨rfl, rfl⟩
      go_wp2_with fail
      refine HA.out.mono ?_
      rintro e w' ⟨rfl, rfl⟩
      go_wp2_with fail
      refine HT.out.mono ?_
      rintro e w1 ⟨b, g, pl, pr, rfl, hg, hN, hO, hT, hb⟩
      have HP2 := Lib.hid (HP.out w1 hb)
      clear hN hO
      go_wp2_with fail
      refine HP2.out.mono ?_
      rintro e w2 ⟨g1, rfl, hg1, o1, b1⟩
      have HV2 := Lib.hid (HV.out b g1 w1 w2 hT hb b1 o1)
      clear hT hb b1 o1
      go_wp2_with fail
      refine HV2.out.mono ?_
      intro e w3 h3
      have HR := Lib.hid h3
      obtain ⟨a3, cap3, rfl, _⟩ := h3
      go_wp2
      go_ret
      exact HR.out
    · have HA := Lib.hid (hasAll_c f a2 m cap2 w ht hf.1 hf.2 hn2 hs2.src false (by simp; exact h2))
      have HR : Hid (OwnLM w (mEncodeWord f l m) (.returned (.slice none 0 0)) w) := Lib.hid (nil_m (by unfold mEncodeWord; rw [if_neg fun h => h2 h.2]) (Below.refl _ _))
      clear hs hs2 ht h1 h2
      go_enter Tryd.func39, Tryd.ntmps39
      go_wp2_with fail
      refine HC.out.mono ?_
      rintro e w' ⟨rfl, rfl⟩
      go_wp2_with fail
      refine HA.out.mono ?_
      rintro e w' ⟨rfl, rfl⟩
      go_wp2
      go_ret
      exact HR.out
  · rw [code_not.2 h1] at HC
    have HR : Hid (OwnLM w (mEncodeWord f l m) (.returned (.slice none 0 0)) w) := Lib.hid (nil_m (by unfold mEncodeWord; rw [if_neg fun h => h1 h.1]) (Below.refl _ _))
    clear hs hs2 ht h1
    go_enter Tryd.func39, Tryd.ntmps39
    go_wp2_with fail
    refine HC.out.mono ?_
    rintro e w' ⟨rfl, rfl⟩
    go_wp2
    go_ret
    exact HR.out
end Go.Proofs.YtangofjpnhhfeabDoor
namespace Go.Proofs.YtangofjpnhhfeabDoor
open Go.RowKit
set_option maxRecDepth 100000 in
theorem difference_c (f : Int) (a a2 : Option Addr) (l m : List Int) (cap cap2 : Nat) (w : World) (ht : Tab w) (h0 : 0 ≤ f) (h8 : f ≤ 8) (hn : l.length ≤ 1048576) (hn2 : m.length ≤ 1048576) (hl : Pol f l) (hm : Pol f m) (hs : Src w a l.length (lf l)) (hs2 : Src w a2 m.length (lf m)) :
    Calls Tryd.prog 113 #[.int .i64 f, .slice a l.length cap, .slice a2 m.length cap2] w (OwnG w (addL f l (scaleL f m (-1)))) := by
  have hp := P_bd h0 h8
  have HP := Lib.hid (prime_c f w ht h0 h8)
  have HS : Hid (Calls Tryd.prog 118 #[.int .i64 f, .slice a2 m.length cap2, .int .i64 (P f - 1)] w (OwnG w (scaleL f m (-1)))) := Lib.hid (by
    have := scaled_c f (P f - 1) a2 m cap2 w ht h0 h8 hn2 (by omega) (by omega) hm hs2
    rwa [scale_neg] at this)
  have hsl := scaleL_le f m (-1)
  have HA : Hid (∀ (g : Nat) (w1 : World), Below w.heap.size w w1 → Own w1 g (scaleL f m (-1)).length (lf (scaleL f m (-1))) → Calls Tryd.prog 111 #[.int .i64 f, .slice a l.length cap, .slice (some ⟨g, 0, none⟩) (scaleL f m (-1)).length (scaleL f m (-1)).length] w1 (OwnG w (addL f l (scaleL f m (-1))))) := Lib.hid fun g w1 hb ho =>
    (sum_c f a _ l (scaleL f m (-1)) cap _ w1 (ht.below hb) h0 h8 hn (by omega) hl (pol_scaleL h0 h8 _ _) (hs.keep hb) ho.src).mono fun _ _ h => h.up hb
  clear hs hs2 hl hm hn hn2 hsl ht
  generalize scaleL f m (-1) = S at *
  generalize addL f l S = R at *
  generalize l.length = n at *
  generalize m.length = k at *
  go_enter Tryd.func113, Tryd.ntmps113
  go_wp2_with fail
  refine HP.out.mono ?_
  rintro e w' ⟨rfl, rfl⟩
  go_wp2_with fail
  refine HS.out.mono ?_
  rintro e w1 ⟨g1, rfl, hg1, o1, b1⟩
  have HA2 := Lib.hid (HA.out g1 w1 b1 o1)
  clear o1 b1
  go_wp2_with fail
  refine HA2.out.mono ?_
  intro e w2 h2
  have HR := Lib.hid h2
  obtain ⟨g2, rfl, _⟩ := h2
  go_wp2
  go_ret
  exact HR.out
/-- What the divisions answer: a remainder and its factor. -/
def FracP (f : Int) (X Y : Nat → Int) (n bound : Nat) (w : World) (e : Ending) (w' : World) : Prop :=
  ∃ r0 r1 v0 v1 g1 g2, EeaAt f X Y n bound r0 r1 v0 v1 ∧ 2 * (List.length r1 - 1) < bound ∧ e = .returned (.tuple #[.slice (some ⟨g1, 0, none⟩) (List.length r1) (List.length r1), .slice (some ⟨g2, 0, none⟩) (List.length v1) (List.length v1)]) ∧ Own w' g1 (List.length r1) (lf r1) ∧ Own w' g2 (List.length v1) (lf v1) ∧ Below w.heap.size w w'
set_option maxRecDepth 100000 in
set_option maxHeartbeats 6400000 in
theorem fraction_c (f : Int) (h0 : 0 ≤ f) (h8 : f ≤ 8) (b g n bound : Nat) (pl pr : Option Addr) (X Y : Nat → Int) (aa : Option Addr) (cap : Nat) (w : World) (hT : TreeW f w n (some ⟨b, 0, none⟩) X n) (hN : NodeW w b f g n pl pr) (hO : Own w g (n + 1) (lf (vanL f X n))) (n1 : 1 ≤ n) (h40 : n ≤ 40) (hb1 : 1 ≤ bound) (hb2 : bound ≤ 2 * n) (ht : Tab w) (hd : DistinctS f X n) (hY : ∀ j, j < n → 0 ≤ Y j ∧ Y j < P f) (hs : Src w aa n Y) :
    Calls Tryd.prog 102 #[.pointer (some ⟨b, 0, none⟩), .slice aa n cap, .int .i64 bound] w (FracP f X Y n bound w) := by
  have hv := vanL_len h0 h8 X n
  have b0 : Below w.heap.size w w.drew := (Below.refl _ _).drew
  have PT : Hid (Calls Tryd.prog 56 #[.pointer (some ⟨b, 0, none⟩), .slice aa n cap] w.drew (OwnG w.drew (interL f X Y n))) := Lib.hid (through_u f h0 h8 b g n pl pr X Y aa cap w.drew (hT.keep b0) (hN.keep b0 hN.lt) (hO.keep b0) n1 h40 (ht.below b0) hd hY (hs.keep b0))
  have HST := Lib.hid (EeaAt.start (b := bound) h0 h8 hb2 hY (interL_is h0 h8 n1 hd hY))
  have HNX : Hid (∀ r0 r1 v0 v1 q r : List Int, EeaAt f X Y n bound r0 r1 v0 v1 → r1.length ≠ 0 → bound ≤ 2 * (r1.length - 1) → DivP f r0 r1 q r → EeaAt f X Y n bound r1 r v1 (addL f v0 (scaleL f (mulL f q v1) (-1)))) := Lib.hid fun r0 r1 v0 v1 q r h hz hb hd => h.step h0 h8 hz hb hd
  have P0 : Hid (∀ W, Calls Tryd.prog 71 #[.slice none 0 0] W (fun e w' => ∃ g0, e = .returned (.slice (some ⟨g0, 0, none⟩) 0 0) ∧ W.heap.size ≤ g0 ∧ Own w' g0 0 (lf []) ∧ Below W.heap.size W w')) := Lib.hid fun W => poly_none none 0 (lf []) W
  have P1 : Hid (∀ W, Calls Tryd.prog 71 #[.slice (some ⟨W.heap.size, 0, none⟩) 1 1] (W.alloc (.cells #[.int .i64 1] 3)) (fun e w' => ∃ g0, e = .returned (.slice (some ⟨g0, 0, none⟩) 1 1) ∧ W.heap.size ≤ g0 ∧ Own w' g0 1 (lf [1]) ∧ Below W.heap.size W w')) := Lib.hid fun W => by
    have h1 := poly_c (some ⟨W.heap.size, 0, none⟩) 1 1 (lf [1]) (W.alloc (.cells #[.int .i64 1] 3)) (by omega) (src_one1 W)
    have e1 : cutL 1 (lf [1]) = [1] := rfl
    rw [e1] at h1
    exact h1.mono fun e w' h => h.up (u := W) ((Below.refl _ _).alloc (Nat.le_refl _) _)
  have PD : Hid (∀ (r0 r1 : List Int) (g0 g1 : Nat) W, Below w.heap.size w W → Pol f r0 → Pol f r1 → r0.length ≤ 42 → r1.length ≤ 42 → r1.length ≠ 0 → Own W g0 r0.length (lf r0) → Own W g1 r1.length (lf r1) → Calls Tryd.prog 103 #[.int .i64 f, .slice (some ⟨g0, 0, none⟩) r0.length r0.length, .slice (some ⟨g1, 0, none⟩) r1.length r1.length] W (DivR f r0 r1 W)) := Lib.hid fun r0 r1 g0 g1 W hb p0 p1 l0 l1 lz o0 o1 =>
    divide_c f _ _ r0 r1 _ _ W (ht.below hb) h0 h8 (by omega) (by omega) lz p0 p1 o0.src o1.src
  have PM : Hid (∀ (q v : List Int) (g0 g1 : Nat) W, Below w.heap.size w W → Pol f q → Pol f v → q.length ≤ 42 → v.length ≤ 42 → Own W g0 q.length (lf q) → Own W g1 v.length (lf v) → Calls Tryd.prog 87 #[.int .i64 f, .slice (some ⟨g0, 0, none⟩) q.length q.length, .slice (some ⟨g1, 0, none⟩) v.length v.length] W (OwnG W (mulL f q v))) := Lib.hid fun q v g0 g1 W hb p0 p1 l0 l1 o0 o1 =>
    product_c f _ _ q v _ _ W (ht.below hb) h0 h8 (by omega) (by omega) p0 p1 o0.src o1.src
  have PS : Hid (∀ (v0 q v : List Int) (g0 g1 : Nat) W, Below w.heap.size w W → Pol f v0 → v0.length ≤ 42 → q.length ≤ 42 → v.length ≤ 42 → Own W g0 v0.length (lf v0) → Own W g1 (mulL f q v).length (lf (mulL f q v)) → Calls Tryd.prog 113 #[.int .i64 f, .slice (some ⟨g0, 0, none⟩) v0.length v0.length, .slice (some ⟨g1, 0, none⟩) (mulL f q v).length (mulL f q v).length] W (OwnG W (addL f v0 (scaleL f (mulL f q v) (-1))))) := Lib.hid fun v0 q v g0 g1 W hb p0 l0 l1 l2 o0 o1 =>
    difference_c f _ _ v0 (mulL f q v) _ _ W (ht.below hb) h0 h8 (by omega) (by have := mulL_le f q v; omega) p0 (pol_mulL h0 h8 _ _) o0.src o1.src
  have HQ : Hid (∀ r0 r1 v0 v1 q r : List Int, EeaAt f X Y n bound r0 r1 v0 v1 → DivP f r0 r1 q r → q.length ≤ 42) := Lib.hid fun r0 r1 v0 v1 q r h hd => by
    have h1 := quo_lenB h0 h8 h.1.1 h.1.2.1 (Nat.le_of_lt h.2.1.1) hd
    have h2 := hd.2.2.1
    have h3 := h.2.1.2.2.1
    have h4 := h.2.1.2.1
    omega
  have k0 : w.cell? ⟨b, 1, none⟩ = some (.slice (some ⟨g, 0, none⟩) (n + 1) (n + 1)) := hN.2.1
  have k1 : w.drew.cell? ⟨b, 1, none⟩ = some (.slice (some ⟨g, 0, none⟩) (n + 1) (n + 1)) := hN.2.1
  have a0 := hN.1
  have lb := hN.lt
  have HO : Hid (Own w g (vanL f X n).length (lf (vanL f X n))) := Lib.hid (by rw [hv]; exact hO)
  rw [← hv] at k0 k1
  clear hT hN hO ht hd hY hs hv
  generalize interL f X Y n = I at *
  generalize hV : vanL f X n = V at *
  go_enter Tryd.func102, Tryd.ntmps102
  go_wp2_with fail
  go_region_held3 (fun W1 => W1.cell? ⟨b, 1, none⟩ = some (.slice (some ⟨g, 0, none⟩) V.length V.length))
    (first | exact k0 | exact k1 | exact k2 | go_keep)
    ((go_at_call 56; refine PT.out.mono ?_; rintro e w1 ⟨g1, rfl, hg1, o1, b1⟩; have b2 := below_up b0 b1 b0.size; have k2 : w1.cell? ⟨b, 1, none⟩ = some (.slice (some ⟨g, 0, none⟩) V.length V.length) := (b1.cell (p := ⟨b, 1, none⟩) lb).trans k1))
  clear k0 k1 k2 a0 PT
  go_wp2_with fail
  refine (P0.out _).mono ?_
  rintro e w2 ⟨g2, rfl, hg2, o2, b3⟩
  have b4 := below_up b2 b3 b2.size
  have o3 := o1.keep b3
  clear o1 b3 b2 b0 b1
  go_wp2_with fail
  refine (P1.out _).mono ?_
  rintro e w3 ⟨g3, rfl, hg3, o4, b5⟩
  have b6 := below_up b4 b5 b4.size
  have o5 := o2.keep b5
  have o6 := o3.keep b5
  have o7 := HO.out.keep b6
  have HSTART : Hid (∃ (r0 r1 v0 v1 : List Int) (q0 q1 q2 q3 : Nat), Value.slice (some ⟨g, 0, none⟩) V.length V.length = .slice (some ⟨q0, 0, none⟩) r0.length r0.length ∧ Value.slice (some ⟨g1, 0, none⟩) I.length I.length = .slice (some ⟨q1, 0, none⟩) r1.length r1.length ∧ Value.slice (some ⟨g2, 0, none⟩) 0 0 = .slice (some ⟨q2, 0, none⟩) v0.length v0.length ∧ Value.slice (some ⟨g3, 0, none⟩) 1 1 = .slice (some ⟨q3, 0, none⟩) v1.length v1.length ∧ EeaAt f X Y n bound r0 r1 v0 v1 ∧ Own w3 q0 r0.length (lf r0) ∧ Own w3 q1 r1.length (lf r1) ∧ Own w3 q2 v0.length (lf v0) ∧ Own w3 q3 v1.length (lf v1) ∧ Below w.heap.size w w3) := Lib.hid ⟨V, I, [], [1], g, g1, g2, g3, rfl, rfl, rfl, rfl, HST.out, o7, o6, o5, o4, b6⟩
  clear o2 o3 o4 o5 o6 o7 b4 b5 b6 HO HST P0 P1
  trace_state
  go_wp2_with fail
  go_loopw [9, 10, 11, 12] (fun x0 x1 x2 x3 wr => ∃ (r0 r1 v0 v1 : List Int) (q0 q1 q2 q3 : Nat), x0 = .slice (some ⟨q0, 0, none⟩) r0.length r0.length ∧ x1 = .slice (some ⟨q1, 0, none⟩) r1.length r1.length ∧ x2 = .slice (some ⟨q2, 0, none⟩) v0.length v0.length ∧ x3 = .slice (some ⟨q3, 0, none⟩) v1.length v1.length ∧ EeaAt f X Y n bound r0 r1 v0 v1 ∧ Own wr q0 r0.length (lf r0) ∧ Own wr q1 r1.length (lf r1) ∧ Own wr q2 v0.length (lf v0) ∧ Own wr q3 v1.length (lf v1) ∧ Below w.heap.size w wr) (fun _ x1 _ _ _ => match x1 with | .slice _ n _ => n | _ => 0)
  case atStart => exact HSTART.out
  case round =>
    clear HSTART
    obtain ⟨r0, r1, v0, v1, q0, q1, q2, q3, rfl, rfl, rfl, rfl, hE, o0, o1, o2, o3, hb⟩ := hrel
    have l1 := hE.2.1.1
    have l2 := hE.2.1.2.1
    have l3 := hE.2.1.2.2.1
    have r1b : (r1.length : Int) ≤ 42 := by omega
    by_cases h1 : (bound : Int) ≤ 2 * ((r1.length : Int) - 1)
    · have hd1 : decide ((bound : Int) ≤ 2 * ((r1.length : Int) - 1)) = true := decide_eq_true h1
      have HDV := Lib.hid (PD.out r0 r1 q0 q1 wr hb hE.1.1 hE.1.2.1 (by omega) (by omega) (by omega) o0 o1)
      have HE := Lib.hid hE
      have HO1 := Lib.hid o1
      have HO2 := Lib.hid o2
      have HO3 := Lib.hid o3
      have HB := Lib.hid hb
      have HL : Hid (r1.length ≤ 42 ∧ r0.length ≤ 42 ∧ v0.length ≤ 42 ∧ v1.length ≤ 42 ∧ r1.length ≠ 0 ∧ bound ≤ 2 * (r1.length - 1)) := Lib.hid (by omega)
      clear hE o0 o1 o2 o3 hb l1 l2 l3 h1
      go_wp2_with fail
      refine HDV.out.mono ?_
      rintro e w4 ⟨gq, gr, q, r, rfl, hdv, hgq, hgr, oq, or', b7⟩
      have b8 := below_up HB.out b7 HB.out.size
      have HM := Lib.hid (PM.out q v1 gq q3 w4 b8 hdv.1 HE.out.1.2.2.2 (HQ.out _ _ _ _ _ _ HE.out hdv) HL.out.2.2.2.1 oq (HO3.out.keep b7))
      have HDP := Lib.hid hdv
      have HB8 := Lib.hid b8
      have HB7 := Lib.hid b7
      have HOR := Lib.hid or'
      clear hdv oq or' b7 b8 HDV
      go_wp2_with fail
      refine HM.out.mono ?_
      rintro e w5 ⟨g5, rfl, hg5, o5, b9⟩
      have b10 := below_up HB8.out b9 HB8.out.size
      have HS2 := Lib.hid (PS.out v0 q v1 q2 g5 w5 b10 HE.out.1.2.2.1 HL.out.2.2.1 (HQ.out _ _ _ _ _ _ HE.out HDP.out) HL.out.2.2.2.1 ((HO2.out.keep HB7.out).keep b9) o5)
      have HB10 := Lib.hid b10
      have HB9 := Lib.hid b9
      clear o5 b9 b10 HM
      go_wp2_with fail
      refine HS2.out.mono ?_
      rintro e w6 ⟨g6, rfl, hg6, o6, b11⟩
      have HNEW : Hid (EeaAt f X Y n bound r1 r v1 (addL f v0 (scaleL f (mulL f q v1) (-1))) ∧ Own w6 q1 r1.length (lf r1) ∧ Own w6 gr r.length (lf r) ∧ Own w6 q3 v1.length (lf v1) ∧ Own w6 g6 (addL f v0 (scaleL f (mulL f q v1) (-1))).length (lf (addL f v0 (scaleL f (mulL f q v1) (-1)))) ∧ Below w.heap.size w w6) := Lib.hid ⟨HNX.out _ _ _ _ _ _ HE.out HL.out.2.2.2.2.1 HL.out.2.2.2.2.2 HDP.out, ((HO1.out.keep HB7.out).keep HB9.out).keep b11, (HOR.out.keep HB9.out).keep b11, ((HO3.out.keep HB7.out).keep HB9.out).keep b11, o6, below_up HB10.out b11 HB10.out.size⟩
      have hlt := HDP.out.2.2.1
      clear o6 b11 HS2
      go_wp2
      go_roundw
      case rel => exact ⟨r1, r, v1, _, q1, gr, q3, g6, rfl, rfl, rfl, rfl, HNEW.out⟩
      case measure => exact hlt
    · have hd1 : decide ((bound : Int) ≤ 2 * ((r1.length : Int) - 1)) = false := decide_eq_false h1
      have HF : Hid (FracP f X Y n bound w (.returned (.tuple #[.slice (some ⟨q1, 0, none⟩) r1.length r1.length, .slice (some ⟨q3, 0, none⟩) v1.length v1.length])) wr) := Lib.hid ⟨r0, r1, v0, v1, q1, q3, hE, by omega, rfl, o1, o3, hb⟩
      clear hE o0 o1 o2 o3 hb l1 l2 l3
      go_wp2
      go_ret2
      exact HF.out
end Go.Proofs.YtangofjpnhhfeabDoor
namespace Go.Proofs.YtangofjpnhhfeabDoor
open Go.RowKit
theorem padded_trunc (a : Option Addr) (l : List Int) (cap N : Nat) (w : World) (hl : N ≤ l.length) (hN : N ≤ 1048576) (hs : Src w a l.length (lf l)) : Calls Tryd.prog 91 #[.slice a l.length cap, .int .i64 N] w (OwnG w (padL l N)) := by
  have hmk := made_n N hN
  have HS := Lib.hid hs
  have HO : Hid (∀ w', Own w' w.heap.size N (fun j => if j < N then lf l j else 0) → Below w.heap.size w w' → OwnG w (padL l N) (.returned (.slice (some ⟨w.heap.size, 0, none⟩) N N)) w') := Lib.hid fun w' ho hb => OwnG.of_own ho (padL_len l N).symm (Nat.le_refl _) (fun j hj => by
    unfold padL
    rw [lf_tab, if_pos hj]) hb
  clear hs
  go_enter Tryd.func91, Tryd.ntmps91
  go_wp2_with (with_reducible refine wpList_copy_made rfl _ _ rfl N 0 N N l.length cap _ _ (lf l) rfl rfl (fun _ => rfl) hl (by omega) HS.out ?_)
  intro w2 H2 hb
  have HR := Lib.hid (HO.out w2 H2.out hb)
  clear hmk H2 HO
  go_wp2
  go_ret
  exact HR.out
theorem padded_any (a : Option Addr) (l : List Int) (cap N : Nat) (w : World) (hN : N ≤ 1048576) (hs : Src w a l.length (lf l)) : Calls Tryd.prog 91 #[.slice a l.length cap, .int .i64 N] w (OwnG w (padL l N)) := by
  by_cases h : l.length ≤ N
  · exact padded_c a l cap N w h hN hs
  · exact padded_trunc a l cap N w (by omega) hN hs
theorem block_cell {w : World} {g j : Nat} {cs : Array Value} {t : TypeId} {v : Value} (h : w.heap[g]? = some (.cells cs t)) (hj : cs[j]? = some v) : w.cell? ⟨g, j, none⟩ = some v := by
  unfold World.cell?
  simp [h, hj]
theorem block_frozen {w : World} {g j : Nat} {cs : Array Value} {t : TypeId} (h : w.heap[g]? = some (.cells cs t)) : w.frozen? ⟨g, j, none⟩ = false := by
  unfold World.frozen?
  simp [h]
/-- What a decoder answers: the message and the places that are wrong, or that there is none. -/
def DecR (f : Int) (xs ys : List Int) (k : Nat) (w : World) (e : Ending) (w' : World) : Prop :=
  ((∃ m, QDec f xs ys k m) ∧ ∃ gm a c, e = .returned (.tuple #[.agg #[.slice (some ⟨gm, 0, none⟩) k k, .slice a (blameL f xs ys k).length c], .nilIface]) ∧ w.heap.size ≤ gm ∧ Own w' gm k (lf (decL f xs ys k)) ∧ OwnM w' w.heap.size a (blameL f xs ys k) c ∧ Below w.heap.size w w') ∨
  ((¬ ∃ m, QDec f xs ys k m) ∧ ∃ x : Int, e = .returned (.tuple #[.agg #[.slice none 0 0, .slice none 0 0], .iface 80 (.agg #[.int .i64 x])]) ∧ Below w.heap.size w w')
theorem OwnM.other {w : World} {B g2 s : Nat} {a : Option Addr} {l : List Int} {cap : Nat} {v : Value} (h : OwnM w B a l cap) (hne : g2 < B) : OwnM (w.setCell ⟨g2, s, none⟩ v) B a l cap :=
  h.imp id fun ⟨g, h1, h2, h3⟩ => ⟨g, h1, h2, h3.other (by omega)⟩
theorem own_other' {w : World} {g g2 n s : Nat} {F : Nat → Int} {v : Value} (h : Own w g n F) (hne : g2 < g) : Own (w.setCell ⟨g2, s, none⟩ v) g n F := World.rowIs.setOther h (a := ⟨g2, s, none⟩) (by show g ≠ g2; omega) v
set_option maxRecDepth 100000 in
set_option maxHeartbeats 6400000 in
theorem decode_u (f : Int) (b g : Nat) (pl pr : Option Addr) (xs ys : List Int) (k : Nat) (aa : Option Addr) (cap : Nat) (w : World) (hT : TreeW f w xs.length (some ⟨b, 0, none⟩) (lf xs) xs.length) (hN : NodeW w b f g xs.length pl pr) (hO : Own w g (xs.length + 1) (lf (vanL f (lf xs) xs.length))) (hp : PtsOk f xs) (hy : ys.length = xs.length) (he : ElsOk f ys) (n10 : xs.length ≤ 10) (k1 : 1 ≤ k) (hk : k ≤ xs.length) (ht : Tab w) (hs : Src w aa xs.length (lf ys)) :
    Calls Tryd.prog 77 #[.pointer (some ⟨b, 0, none⟩), .slice aa xs.length cap, .int .i64 k] w (DecR f xs ys k w) := by
  have h0 := hp.1.1
  have h8 := hp.1.2
  have n1 := hp.2.1.1
  have PF : Hid (∀ W, Below w.heap.size w W → Calls Tryd.prog 102 #[.pointer (some ⟨b, 0, none⟩), .slice aa xs.length cap, .int .i64 ((xs.length : Int) + k)] W (FracP f (lf xs) (lf ys) xs.length (xs.length + k) W)) := Lib.hid fun W hb => by
    have := fraction_c f h0 h8 b g xs.length (xs.length + k) pl pr (lf xs) (lf ys) aa cap W (hT.keep hb) (hN.keep hb hN.lt) (hO.keep hb) n1 (by omega) (by omega) (by omega) (ht.below hb) hp.dist (fun j hj => he j (by omega)) (hs.keep hb)
    rwa [show ((xs.length + k : Nat) : Int) = (xs.length : Int) + k from by push_cast; rfl] at this
  have PD : Hid (∀ (r0 r1 v0 v1 : List Int) (g1 g2 : Nat) W, EeaAt f (lf xs) (lf ys) xs.length (xs.length + k) r0 r1 v0 v1 → Below w.heap.size w W → Own W g1 r1.length (lf r1) → Own W g2 v1.length (lf v1) → Calls Tryd.prog 103 #[.int .i64 f, .slice (some ⟨g1, 0, none⟩) r1.length r1.length, .slice (some ⟨g2, 0, none⟩) v1.length v1.length] W (DivR f r1 v1 W)) := Lib.hid fun r0 r1 v0 v1 g1 g2 W hE hb o1 o2 =>
    divide_c f _ _ r1 v1 _ _ W (ht.below hb) h0 h8 (by have := hE.2.1.1; have := hE.2.1.2.2.1; omega) (by have := hE.2.1.2.2.1; omega) (by have := hE.2.1.2.1; omega) hE.1.2.1 hE.1.2.2.2 o1.src o2.src
  have PP : Hid (∀ (q : List Int) (gq : Nat) W, q.length ≤ 1048576 → Own W gq q.length (lf q) → Calls Tryd.prog 91 #[.slice (some ⟨gq, 0, none⟩) q.length q.length, .int .i64 k] W (fun e w' => ∃ gm, e = .returned (.slice (some ⟨gm, 0, none⟩) k k) ∧ W.heap.size ≤ gm ∧ Own w' gm k (lf (padL q k)) ∧ Below W.heap.size W w')) := Lib.hid fun q gq W hq ho => by
    refine (padded_any _ q _ k W (by omega) ho.src).mono fun e w' h => ?_
    obtain ⟨gm, h1, h2, h3, h4⟩ := h
    rw [padL_len] at h1 h3
    exact ⟨gm, h1, h2, h3, h4⟩
  have PO : Hid (∀ (m : List Int) (gm : Nat) W, Own W gm k (lf m) → Calls Tryd.prog 71 #[.slice (some ⟨gm, 0, none⟩) k k] W (OwnG W (cutL k (lf m)))) := Lib.hid fun m gm W ho => poly_c _ k k (lf m) W (by omega) ho.src
  have PV : Hid (∀ (q : List Int) (g5 : Nat) W, Pol f q → Below w.heap.size w W → Own W g5 (cutL k (lf (padL q k))).length (lf (cutL k (lf (padL q k)))) → Calls Tryd.prog 58 #[.pointer (some ⟨b, 0, none⟩), .slice (some ⟨g5, 0, none⟩) (cutL k (lf (padL q k))).length (cutL k (lf (padL q k))).length] W (fun e w' => ∃ g6 c6, e = .returned (.slice (some ⟨g6, 0, none⟩) xs.length c6) ∧ Src w' (some ⟨g6, 0, none⟩) xs.length (lf (encL f xs (padL q k))) ∧ Below W.heap.size W w')) := Lib.hid fun q g5 W hq hb ho => by
    have hle := cutL_le k (lf (padL q k))
    refine (values_c f h0 h8 xs.length _ (lf xs) xs.length _ (cutL k (lf (padL q k))) _ W (hT.keep hb) (by omega) (ht.below hb) (msg_pol h0 h8 (padL_len q k) (padL_els hq)) (by omega) ho.src).mono fun e w' h => ?_
    rw [vals_enc (padL_len q k)] at h
    obtain ⟨g6, c6, h1, h2, h3, h4⟩ := h.form (by rw [encL_len]; exact n1)
    rw [encL_len] at h1 h3
    exact ⟨g6, c6, h1, h3, h4⟩
  have PW7 : Hid (∀ (q : List Int) (g6 c6 : Nat) W, Below w.heap.size w W → Src W (some ⟨g6, 0, none⟩) xs.length (lf (encL f xs (padL q k))) → Calls Tryd.prog 72 #[.slice aa xs.length cap, .slice (some ⟨g6, 0, none⟩) xs.length c6] W (OwnLM W (dfL ys (encL f xs (padL q k))))) := Lib.hid fun q g6 c6 W hb hs6 => by
    have := differing_c aa ys cap (some ⟨g6, 0, none⟩) (encL f xs (padL q k)) c6 W (by omega) (by rw [encL_len]; omega) (by rw [hy]; exact hs.keep hb) (by rw [encL_len]; exact hs6)
    rw [encL_len, hy] at this
    exact this.mono fun e w' h => h.m
  have HAN : Hid (∀ r0 r1 v0 v1 q r : List Int, EeaAt f (lf xs) (lf ys) xs.length (xs.length + k) r0 r1 v0 v1 → 2 * (r1.length - 1) < xs.length + k → DivP f r1 v1 q r → ((dfL ys (encL f xs (padL q k))).length ≤ (xs.length - k) / 2 → (∃ m, QDec f xs ys k m) ∧ decL f xs ys k = padL q k ∧ dfL ys (encL f xs (padL q k)) = blameL f xs ys k) ∧ (¬ (dfL ys (encL f xs (padL q k))).length ≤ (xs.length - k) / 2 → ¬ ∃ m, QDec f xs ys k m)) := Lib.hid fun r0 r1 v0 v1 q r hE hend hd => by
    have := hE.answer hp hy k1 hk hend hd
    rw [dfL_len]
    exact ⟨fun h => ⟨⟨_, (this.1 h).1⟩, (this.1 h).2⟩, this.2⟩
  have HQL : Hid (∀ r0 r1 v0 v1 q r : List Int, EeaAt f (lf xs) (lf ys) xs.length (xs.length + k) r0 r1 v0 v1 → DivP f r1 v1 q r → q.length ≤ 1048576) := Lib.hid fun r0 r1 v0 v1 q r hE hd => by
    have h1 := div_len h0 h8 hE.1.2.2.2 hd
    have h2 := hE.2.1.1
    have h3 := hE.2.1.2.1
    have h4 := hE.2.1.2.2.1
    omega
  have kk : Hid (∀ W, Below w.heap.size w W → W.cell? ⟨b, 0, none⟩ = some (.int .i64 f)) := Lib.hid fun W hb => (hN.keep hb hN.lt).1
  have e2 : ((xs.length : Int) - k).tdiv 2 = (((xs.length - k) / 2 : Nat) : Int) := by
    rw [Int.tdiv_eq_ediv_of_nonneg (by omega)]
    omega
  obtain ⟨M, hM⟩ : ∃ M, (xs.length - k) / 2 = M := ⟨_, rfl⟩
  rw [hM] at e2 HAN
  have hMb : M ≤ 10 := by omega
  have b1 : Below w.heap.size w (w.alloc (.cells #[.slice none 0 0, .slice none 0 0] 51)) := (Below.refl _ _).alloc (Nat.le_refl _) _
  have HB0 : Hid ((w.alloc (.cells #[.slice none 0 0, .slice none 0 0] 51)).heap[w.heap.size]? = some (.cells #[.slice none 0 0, .slice none 0 0] 51)) := Lib.hid (heap_alloc_new w _)
  have hz : (w.alloc (.cells #[.slice none 0 0, .slice none 0 0] 51)).heap.size = w.heap.size + 1 := by simp
  have HSZ := Lib.hid hz
  have nb : (xs.length : Int) ≤ 10 := by omega
  have nk : (k : Int) ≤ 10 := by omega
  clear hT hN hO hp he ht hs hz hy
  generalize xs.length = n at *
  go_enter Tryd.func77, Tryd.ntmps77
  go_wp2_with fail
  refine (PF.out _ b1).mono ?_
  rintro e w2 ⟨r0, r1, v0, v1, g1, g2, hE, hend, rfl, o1, o2, b2⟩
  have b3 := below_up b1 b2 b1.size
  have c3 := kk.out _ b3
  have HD := Lib.hid (PD.out r0 r1 v0 v1 g1 g2 w2 hE b3 o1 o2)
  have HE := Lib.hid hE
  have HB2 := Lib.hid b2
  have HB3 := Lib.hid b3
  clear hE o1 o2 b2 b3 PF PD
  go_wp2_with fail
  refine HD.out.mono ?_
  rintro e w3 ⟨gq, gr, q, r, rfl, hdv, hgq, hgr, oq, or', b4⟩
  have b5 := below_up HB3.out b4 HB3.out.size
  have HP := Lib.hid (PP.out q gq w3 (HQL.out _ _ _ _ _ _ HE.out hdv) oq)
  have HA := Lib.hid (HAN.out _ _ _ _ _ _ HE.out hend hdv)
  have HQP := Lib.hid hdv.1
  have HB4 := Lib.hid (HB2.out.trans (b4.mono HB2.out.size))
  have HB5 := Lib.hid b5
  clear hdv oq or' b4 b5 HD HE HAN HQL PP c3 hend HB2 HB3
  go_wp2_with fail
  refine HP.out.mono ?_
  rintro e w4 ⟨gm, rfl, hgm, om, b6⟩
  have HB6 := Lib.hid (HB4.out.trans (b6.mono HB4.out.size))
  have HB7 := Lib.hid (below_up HB5.out b6 HB5.out.size)
  have HOM := Lib.hid om
  have HPO := Lib.hid (PO.out (padL q k) gm w4 om)
  have hgm1 : w.heap.size + 1 ≤ gm := by have := HB4.out.size; have := HSZ.out; omega
  clear om b6 HP PO HB4 HB5
  go_wp2_with fail
  refine HPO.out.mono ?_
  rintro e w5 ⟨g5, rfl, hg5, o5, b8⟩
  have HB8 := Lib.hid (HB6.out.trans (b8.mono HB6.out.size))
  have HB9 := Lib.hid (below_up HB7.out b8 HB7.out.size)
  have HPV := Lib.hid (PV.out q g5 w5 HQP.out HB9.out o5)
  have HOM5 := Lib.hid (HOM.out.keep b8)
  clear o5 b8 HPO PV HOM HB6 HB7
  go_wp2_with fail
  refine HPV.out.mono ?_
  rintro e w6 ⟨g6, c6, rfl, s6, b10⟩
  have HB10 := Lib.hid (HB8.out.trans (b10.mono HB8.out.size))
  have HB11 := Lib.hid (below_up HB9.out b10 HB9.out.size)
  have HPW := Lib.hid (PW7.out q g6 c6 w6 HB11.out s6)
  have HOM6 := Lib.hid (HOM5.out.keep b10)
  clear s6 b10 HPV PW7 HOM5 HB8 HB9
  go_wp2_with fail
  refine HPW.out.mono ?_
  rintro e w7 ⟨a7, c7, rfl, m7, b12⟩
  have HB12 := Lib.hid (HB10.out.trans (b12.mono HB10.out.size))
  have HB13 := Lib.hid (below_up HB11.out b12 HB11.out.size)
  have HOM7 := Lib.hid (HOM6.out.keep b12)
  have HM7 := Lib.hid (m7.low (B' := w.heap.size + 1) (by have := HB10.out.size; have := HSZ.out; omega))
  have hblk : w7.heap[w.heap.size]? = some (.cells #[.slice none 0 0, .slice none 0 0] 51) := (HB12.out.block _ (by have := HSZ.out; omega)).trans HB0.out
  have d0 := block_cell (j := 0) hblk rfl
  have d1 := block_cell (j := 1) hblk rfl
  have f0 := block_frozen (j := 0) hblk
  have f1 := block_frozen (j := 1) hblk
  simp only [List.getElem_toArray, List.getElem_cons_zero, List.getElem_cons_succ] at d0 d1
  clear m7 b12 HPW HOM6 HB10 HB11 hblk HB0 HB12
  by_cases hc : (dfL ys (encL f xs (padL q k))).length ≤ M
  · have hd1 : decide ((M : Int) < ((dfL ys (encL f xs (padL q k))).length : Int)) = false := decide_eq_false (by omega)
    have hd1n : decide (M < (dfL ys (encL f xs (padL q k))).length) = false := decide_eq_false (by omega)
    have HRES : Hid (DecR f xs ys k w (.returned (.tuple #[.agg #[.slice (some ⟨gm, 0, none⟩) k k, .slice a7 (dfL ys (encL f xs (padL q k))).length c7], .nilIface])) ((w7.setCell ⟨w.heap.size, 0, none⟩ (.slice (some ⟨gm, 0, none⟩) k k)).setCell ⟨w.heap.size, 1, none⟩ (.slice a7 (dfL ys (encL f xs (padL q k))).length c7))) := Lib.hid (by
      obtain ⟨q1, q2, q3⟩ := HA.out.1 hc
      refine .inl ⟨q1, gm, a7, c7, ?_, by omega, ?_, ?_, (HB13.out.setCell (p := ⟨w.heap.size, 0, none⟩) (Nat.le_refl _) _).setCell (p := ⟨w.heap.size, 1, none⟩) (Nat.le_refl _) _⟩
      · rw [q3]
      · rw [q2]
        exact own_other' (own_other' HOM7.out (by omega)) (by omega)
      · have := HM7.out
        rw [q3] at this ⊢
        exact ((this.other (by omega)).other (by omega)).low (by omega))
    clear HA HOM7 HM7 HB13 hc
    generalize dfL ys (encL f xs (padL q k)) = V at *
    go_wp2
    refine bodyPost_ret (v := .tuple #[.agg #[.slice (some ⟨gm, 0, none⟩) k k, .slice a7 V.length c7], .nilIface]) (by simp [results, Tryd.results77, go_sem, *]) rfl ?_
    exact HRES.out
  · have hd1 : decide ((M : Int) < ((dfL ys (encL f xs (padL q k))).length : Int)) = true := decide_eq_true (by omega)
    have hd1n : decide (M < (dfL ys (encL f xs (padL q k))).length) = true := decide_eq_true (by omega)
    have HRES : Hid (DecR f xs ys k w (.returned (.tuple #[.agg #[.slice none 0 0, .slice none 0 0], .iface 80 (.agg #[.int .i64 M])])) ((w7.setCell ⟨w.heap.size, 0, none⟩ (.slice none 0 0)).setCell ⟨w.heap.size, 1, none⟩ (.slice none 0 0))) := Lib.hid (.inr ⟨HA.out.2 hc, M, rfl, (HB13.out.setCell (p := ⟨w.heap.size, 0, none⟩) (Nat.le_refl _) _).setCell (p := ⟨w.heap.size, 1, none⟩) (Nat.le_refl _) _⟩)
    clear HA HOM7 HM7 HB13 hc
    generalize dfL ys (encL f xs (padL q k)) = V at *
    go_wp2
    refine bodyPost_ret (v := .tuple #[.agg #[.slice none 0 0, .slice none 0 0], .iface 80 (.agg #[.int .i64 M])]) (by simp [results, Tryd.results77, go_sem, *]) rfl ?_
    exact HRES.out
end Go.Proofs.YtangofjpnhhfeabDoor
namespace Go.Proofs.YtangofjpnhhfeabDoor
open Go.RowKit
/-- errors.As at an error of the target's type: what lies below the target stays. -/
theorem as_hit_b (m : Int) (t : Nat) (old : Value) (w : World) (hg : Ety w) (ht0 : w.cell? ⟨t, 0, none⟩ = some old) (hf0 : w.frozen? ⟨t, 0, none⟩ = false) :
    Calls Tryd.prog 78 #[.iface 80 (.agg #[.int .i64 m]), .iface 82 (.pointer (some ⟨t, 0, none⟩))] w fun ev w' => ev = .returned (.bool true) ∧ Below t w w' := by
  refine (as_hit m t old w hg ht0 hf0).mono ?_
  rintro e w' ⟨rfl, rfl⟩
  have htl : t < w.heap.size := block_lt_of_cell ht0
  exact ⟨rfl, (((((Below.refl t w).alloc (by omega) _).alloc (by simp; omega) _).alloc (by simp; omega) _).alloc (by simp; omega) _).setCell (p := ⟨t, 0, none⟩) (Nat.le_refl _) _⟩
/-- What the decoder of words answers. -/
def DwP (f : Int) (xs ys : List Int) (k : Int) (w : World) (e : Ending) (w' : World) : Prop :=
  (DecOk f xs ys k ∧ ∃ gm a c, e = .returned (.tuple #[.agg #[.slice (some ⟨gm, 0, none⟩) k.toNat k.toNat, .slice a (blameL f xs ys k.toNat).length c], .bool true]) ∧ w.heap.size ≤ gm ∧ Own w' gm k.toNat (lf (decL f xs ys k.toNat)) ∧ OwnM w' w.heap.size a (blameL f xs ys k.toNat) c ∧ Below w.heap.size w w') ∨
  (¬ DecOk f xs ys k ∧ e = .returned (.tuple #[.agg #[.slice none 0 0, .slice none 0 0], .bool false]) ∧ Below w.heap.size w w')
set_option maxRecDepth 100000 in
set_option maxHeartbeats 3200000 in
theorem dw_off (f : Int) (a : Option Addr) (n cap : Nat) (a2 : Option Addr) (m cap2 : Nat) (k : Int) (w : World) (B1 : Bool)
    (HC : Hid (∀ o, Calls Tryd.prog 48 #[.int .i64 f, .slice a n cap, .int .i64 k] (w.alloc o) (SameB (w.alloc o) B1)))
    (HA : Hid (∀ o, B1 = true → m = n → Calls Tryd.prog 54 #[.int .i64 f, .slice a2 m cap2] (w.alloc o) (SameB (w.alloc o) false))) :
    Calls Tryd.prog 45 #[.int .i64 f, .slice a n cap, .slice a2 m cap2, .int .i64 k] w fun e w' => e = .returned (.tuple #[.agg #[.slice none 0 0, .slice none 0 0], .bool false]) ∧ Below w.heap.size w w' := by
  have hblk : (w.alloc (.cells #[.slice none 0 0, .slice none 0 0] 51)).heap[w.heap.size]? = some (.cells #[.slice none 0 0, .slice none 0 0] 51) := heap_alloc_new w _
  have d0 := block_cell (j := 0) hblk rfl
  have d1 := block_cell (j := 1) hblk rfl
  have f0 := block_frozen (j := 0) hblk
  have f1 := block_frozen (j := 1) hblk
  simp only [List.getElem_toArray, List.getElem_cons_zero, List.getElem_cons_succ] at d0 d1
  have hb0 : Below w.heap.size w (w.alloc (.cells #[.slice none 0 0, .slice none 0 0] 51)) := (Below.refl _ _).alloc (Nat.le_refl _) _
  have HB2 := Lib.hid hb0
  have HB := Lib.hid ((hb0.setCell (p := ⟨w.heap.size, 0, none⟩) (Nat.le_refl _) (.slice none 0 0)).setCell (p := ⟨w.heap.size, 1, none⟩) (Nat.le_refl _) (.slice none 0 0))
  clear hblk hb0
  cases B1
  · go_enter Tryd.func45, Tryd.ntmps45
    go_wp2_with fail
    refine (HC.out _).mono ?_
    rintro e w' ⟨rfl, rfl⟩
    go_wp2
    refine bodyPost_ret (v := .tuple #[.agg #[.slice none 0 0, .slice none 0 0], .bool false]) (by simp [results, Tryd.results45, go_sem, *]) rfl ?_
    exact ⟨rfl, by first | exact HB2.out | exact HB.out⟩
  · by_cases hmn : m = n
    · have HA2 : Hid (∀ o, Calls Tryd.prog 54 #[.int .i64 f, .slice a2 m cap2] (w.alloc o) (SameB (w.alloc o) false)) := Lib.hid fun o => HA.out o rfl hmn
      have e2 : ((m : Int) != n) = false := by simp [hmn]
      have e3 : decide (m = n) = true := decide_eq_true hmn
      clear HA hmn
      go_enter Tryd.func45, Tryd.ntmps45
      go_wp2_with fail
      refine (HC.out _).mono ?_
      rintro e w' ⟨rfl, rfl⟩
      go_wp2_with fail
      refine (HA2.out _).mono ?_
      rintro e w' ⟨rfl, rfl⟩
      go_wp2
      refine bodyPost_ret (v := .tuple #[.agg #[.slice none 0 0, .slice none 0 0], .bool false]) (by simp [results, Tryd.results45, go_sem, *]) rfl ?_
      exact ⟨rfl, by first | exact HB2.out | exact HB.out⟩
    · have e2 : ((m : Int) != n) = true := by simp; omega
      have e3 : decide (m = n) = false := decide_eq_false hmn
      clear HA hmn
      go_enter Tryd.func45, Tryd.ntmps45
      go_wp2_with fail
      refine (HC.out _).mono ?_
      rintro e w' ⟨rfl, rfl⟩
      go_wp2
      refine bodyPost_ret (v := .tuple #[.agg #[.slice none 0 0, .slice none 0 0], .bool false]) (by simp [results, Tryd.results45, go_sem, *]) rfl ?_
      exact ⟨rfl, by first | exact HB2.out | exact HB.out⟩
set_option maxRecDepth 100000 in
set_option maxHeartbeats 6400000 in
theorem dw_on (f : Int) (a : Option Addr) (n cap : Nat) (a2 : Option Addr) (cap2 : Nat) (k : Nat) (xs ys : List Int) (w : World) (hg : Ety w)
    (HC : Hid (∀ o, Calls Tryd.prog 48 #[.int .i64 f, .slice a n cap, .int .i64 k] (w.alloc o) (SameB (w.alloc o) true)))
    (HA : Hid (∀ o, Calls Tryd.prog 54 #[.int .i64 f, .slice a2 n cap2] (w.alloc o) (SameB (w.alloc o) true)))
    (HT : Hid (∀ o, Calls Tryd.prog 55 #[.int .i64 f, .slice a n cap] (w.alloc o) (fun e w' => ∃ b : Nat, e = .returned (.pointer (some ⟨b, 0, none⟩)) ∧ Below (w.alloc o).heap.size (w.alloc o) w' ∧ Calls Tryd.prog 77 #[.pointer (some ⟨b, 0, none⟩), .slice a2 n cap2, .int .i64 k] w' (DecR f xs ys k w')))) :
    Calls Tryd.prog 45 #[.int .i64 f, .slice a n cap, .slice a2 n cap2, .int .i64 k] w fun e w' =>
      ((∃ m, QDec f xs ys k m) ∧ ∃ gm a c, e = .returned (.tuple #[.agg #[.slice (some ⟨gm, 0, none⟩) k k, .slice a (blameL f xs ys k).length c], .bool true]) ∧ w.heap.size ≤ gm ∧ Own w' gm k (lf (decL f xs ys k)) ∧ OwnM w' w.heap.size a (blameL f xs ys k) c ∧ Below w.heap.size w w') ∨
      ((¬ ∃ m, QDec f xs ys k m) ∧ e = .returned (.tuple #[.agg #[.slice none 0 0, .slice none 0 0], .bool false]) ∧ Below w.heap.size w w') := by
  have hb0 : Below w.heap.size w (w.alloc (.cells #[.slice none 0 0, .slice none 0 0] 51)) := (Below.refl _ _).alloc (Nat.le_refl _) _
  have HB0 := Lib.hid hb0
  have HBL := Lib.hid (heap_alloc_new w (.cells #[.slice none 0 0, .slice none 0 0] 51))
  have hz : (w.alloc (.cells #[.slice none 0 0, .slice none 0 0] 51)).heap.size = w.heap.size + 1 := by simp
  have HSZ := Lib.hid hz
  have HG := Lib.hid hg
  have e2 : ((n : Int) != n) = false := by simp
  clear hb0 hz hg
  go_enter Tryd.func45, Tryd.ntmps45
  go_wp2_with fail
  refine (HC.out _).mono ?_
  rintro e w' ⟨rfl, rfl⟩
  go_wp2_with fail
  refine (HA.out _).mono ?_
  rintro e w' ⟨rfl, rfl⟩
  go_wp2_with fail
  refine (HT.out _).mono ?_
  rintro e w1 ⟨b, rfl, hb1, HD⟩
  have HB1 := Lib.hid hb1
  have HDD := Lib.hid HD
  clear hb1 HD
  go_wp2_with fail
  refine HDD.out.mono ?_
  intro e w2 h2
  have hb12 : Below w.heap.size w w2 → True := fun _ => trivial
  have tok1 : True := trivial
  rcases h2 with ⟨hq, gm, a7, c7, rfl, hgm, om, m7, hb2⟩ | ⟨hq, x, rfl, hb2⟩
  ·
    have hs1 := HB1.out.size
    have hs0 := HSZ.out
    have hs2 := hb2.size
    have hb3 := below_up HB0.out HB1.out HB0.out.size
    have hb4 := below_up hb3 hb2 hb3.size
    have hblk0 : (((w2.alloc (.cells #[.slice (some ⟨gm, 0, none⟩) k k, .slice a7 (blameL f xs ys k).length c7] 51)).alloc (.cells #[.int .i64 0] 80)).heap[w.heap.size]? = some (.cells #[.slice none 0 0, .slice none 0 0] 51)) := by
      rw [heap_alloc_old _ _ (by simp; omega), heap_alloc_old _ _ (by omega)]
      exact (hb2.block _ (by omega)).trans ((HB1.out.block _ (by omega)).trans HBL.out)
    have hblk1 : (((w2.alloc (.cells #[.slice (some ⟨gm, 0, none⟩) k k, .slice a7 (blameL f xs ys k).length c7] 51)).alloc (.cells #[.int .i64 0] 80)).heap[w2.heap.size]? = some (.cells #[.slice (some ⟨gm, 0, none⟩) k k, .slice a7 (blameL f xs ys k).length c7] 51)) := by
      rw [heap_alloc_old _ _ (by simp)]
      exact heap_alloc_new w2 _
    have hblk2 : (((w2.alloc (.cells #[.slice (some ⟨gm, 0, none⟩) k k, .slice a7 (blameL f xs ys k).length c7] 51)).alloc (.cells #[.int .i64 0] 80)).heap[w2.heap.size + 1]? = some (.cells #[.int .i64 0] 80)) := by
      have := heap_alloc_new (w2.alloc (.cells #[.slice (some ⟨gm, 0, none⟩) k k, .slice a7 (blameL f xs ys k).length c7] 51)) (.cells #[.int .i64 0] 80)
      rwa [show (w2.alloc (.cells #[.slice (some ⟨gm, 0, none⟩) k k, .slice a7 (blameL f xs ys k).length c7] 51)).heap.size = w2.heap.size + 1 by simp] at this
    have hb5 : Below w2.heap.size w2 ((w2.alloc (.cells #[.slice (some ⟨gm, 0, none⟩) k k, .slice a7 (blameL f xs ys k).length c7] 51)).alloc (.cells #[.int .i64 0] 80)) := ((Below.refl _ _).alloc (Nat.le_refl _) _).alloc (by simp) _
    have hb6 := below_up hb4 hb5 hb4.size
    have d0 := block_cell (j := 0) hblk0 rfl
    have d1 := block_cell (j := 1) hblk0 rfl
    have f0 := block_frozen (j := 0) hblk0
    have f1 := block_frozen (j := 1) hblk0
    have e0 := block_cell (j := 0) hblk1 rfl
    have e1 := block_cell (j := 1) hblk1 rfl
    have t0 := block_cell (j := 0) hblk2 rfl
    have tf := block_frozen (j := 0) hblk2
    simp only [List.getElem_toArray, List.getElem_cons_zero, List.getElem_cons_succ] at d0 d1 e0 e1 t0
    have hne : w.heap.size ≠ w2.heap.size := by omega
    have hlw : w.heap.size < w2.heap.size + 1 := by omega
    have om2 := om.keep hb5
    have m8 := (m7.keep hb5).low (B' := w.heap.size + 1) (by omega)
    have hgm1 : w.heap.size < gm := by omega
    have HRES : Hid (∀ W, W = ((w2.alloc (.cells #[.slice (some ⟨gm, 0, none⟩) k k, .slice a7 (blameL f xs ys k).length c7] 51)).alloc (.cells #[.int .i64 0] 80)) → ((∃ m, QDec f xs ys k m) ∧ ∃ gm2 a c, Ending.returned (.tuple #[.agg #[.slice (some ⟨gm, 0, none⟩) k k, .slice a7 (blameL f xs ys k).length c7], .bool true]) = .returned (.tuple #[.agg #[.slice (some ⟨gm2, 0, none⟩) k k, .slice a (blameL f xs ys k).length c], .bool true]) ∧ w.heap.size ≤ gm2 ∧ Own ((W.setCell ⟨w.heap.size, 0, none⟩ (.slice (some ⟨gm, 0, none⟩) k k)).setCell ⟨w.heap.size, 1, none⟩ (.slice a7 (blameL f xs ys k).length c7)).drew gm2 k (lf (decL f xs ys k)) ∧ OwnM ((W.setCell ⟨w.heap.size, 0, none⟩ (.slice (some ⟨gm, 0, none⟩) k k)).setCell ⟨w.heap.size, 1, none⟩ (.slice a7 (blameL f xs ys k).length c7)).drew w.heap.size a (blameL f xs ys k) c ∧ Below w.heap.size w ((W.setCell ⟨w.heap.size, 0, none⟩ (.slice (some ⟨gm, 0, none⟩) k k)).setCell ⟨w.heap.size, 1, none⟩ (.slice a7 (blameL f xs ys k).length c7)).drew)) := Lib.hid (by
      rintro W rfl
      have o3 := own_other' (v := .slice a7 (blameL f xs ys k).length c7) (s := 1) (own_other' (v := .slice (some ⟨gm, 0, none⟩) k k) (s := 0) om2 hgm1) hgm1
      have m9 := (OwnM.other (g2 := w.heap.size) (s := 1) (v := .slice a7 (blameL f xs ys k).length c7) (OwnM.other (g2 := w.heap.size) (s := 0) (v := .slice (some ⟨gm, 0, none⟩) k k) m8 (Nat.lt_succ_self _)) (Nat.lt_succ_self _)).low (B' := w.heap.size) (Nat.le_succ _)
      exact ⟨hq, gm, a7, c7, rfl, by omega, o3, m9, ((hb6.setCell (p := ⟨w.heap.size, 0, none⟩) (Nat.le_refl _) _).setCell (p := ⟨w.heap.size, 1, none⟩) (Nat.le_refl _) _).drew⟩)
    clear hblk0 hblk1 hblk2 om m7 hb2 hb3 hb4 hb5 om2 m8 hb6 t0 tf
    go_wp2_with fail
    generalize hV : (blameL f xs ys k).length = L at *
    generalize hW : ((w2.alloc (.cells #[.slice (some ⟨gm, 0, none⟩) k k, .slice a7 L c7] 51)).alloc (.cells #[.int .i64 0] 80)) = W at *
    have HRES2 := Lib.hid (HRES.out W rfl)
    clear HRES hW
    go_region_held3 (fun W1 => W1.cell? ⟨w2.heap.size, 0, none⟩ = some (.slice (some ⟨gm, 0, none⟩) k k) ∧ W1.cell? ⟨w2.heap.size, 1, none⟩ = some (.slice a7 L c7))
      (first | exact ⟨e0, e1⟩ | go_keep)
      ((go_at_call 78; refine (as_nil _ _).mono ?_; rintro e w' ⟨rfl, rfl⟩))
    go_wp2
    refine bodyPost_ret (v := .tuple #[.agg #[.slice (some ⟨gm, 0, none⟩) k k, .slice a7 L c7], .bool true]) (by simp [results, Tryd.results45, go_sem, *]) rfl ?_
    subst hV
    exact .inl HRES2.out
  ·
    have hs1 := HB1.out.size
    have hs0 := HSZ.out
    have hs2 := hb2.size
    have hb3 := below_up HB0.out HB1.out HB0.out.size
    have hb4 := below_up hb3 hb2 hb3.size
    have hblk0 : (((w2.alloc (.cells #[.slice none 0 0, .slice none 0 0] 51)).alloc (.cells #[.int .i64 0] 80)).heap[w.heap.size]? = some (.cells #[.slice none 0 0, .slice none 0 0] 51)) := by
      rw [heap_alloc_old _ _ (by simp; omega), heap_alloc_old _ _ (by omega)]
      exact (hb2.block _ (by omega)).trans ((HB1.out.block _ (by omega)).trans HBL.out)
    have hblk1 : (((w2.alloc (.cells #[.slice none 0 0, .slice none 0 0] 51)).alloc (.cells #[.int .i64 0] 80)).heap[w2.heap.size]? = some (.cells #[.slice none 0 0, .slice none 0 0] 51)) := by
      rw [heap_alloc_old _ _ (by simp)]
      exact heap_alloc_new w2 _
    have hblk2 : (((w2.alloc (.cells #[.slice none 0 0, .slice none 0 0] 51)).alloc (.cells #[.int .i64 0] 80)).heap[w2.heap.size + 1]? = some (.cells #[.int .i64 0] 80)) := by
      have := heap_alloc_new (w2.alloc (.cells #[.slice none 0 0, .slice none 0 0] 51)) (.cells #[.int .i64 0] 80)
      rwa [show (w2.alloc (.cells #[.slice none 0 0, .slice none 0 0] 51)).heap.size = w2.heap.size + 1 by simp] at this
    have hb5 : Below w2.heap.size w2 ((w2.alloc (.cells #[.slice none 0 0, .slice none 0 0] 51)).alloc (.cells #[.int .i64 0] 80)) := ((Below.refl _ _).alloc (Nat.le_refl _) _).alloc (by simp) _
    have hb6 := below_up hb4 hb5 hb4.size
    have d0 := block_cell (j := 0) hblk0 rfl
    have d1 := block_cell (j := 1) hblk0 rfl
    have f0 := block_frozen (j := 0) hblk0
    have f1 := block_frozen (j := 1) hblk0
    have e0 := block_cell (j := 0) hblk1 rfl
    have e1 := block_cell (j := 1) hblk1 rfl
    have t0 := block_cell (j := 0) hblk2 rfl
    have tf := block_frozen (j := 0) hblk2
    simp only [List.getElem_toArray, List.getElem_cons_zero, List.getElem_cons_succ] at d0 d1 e0 e1 t0
    have hne : w.heap.size ≠ w2.heap.size := by omega
    have hlw : w.heap.size < w2.heap.size + 1 := by omega
    have HG2 := Lib.hid (HG.out.below hb6)
    have HB6 := Lib.hid hb6
    clear hblk0 hblk1 hblk2 hb2 hb3 hb4 hb5 hb6
    go_wp2_with fail
    generalize hW : ((w2.alloc (.cells #[.slice none 0 0, .slice none 0 0] 51)).alloc (.cells #[.int .i64 0] 80)) = W at *
    clear hW
    have HG3 : Hid (Ety W.drew) := Lib.hid HG2.out
    have t0' : W.drew.cell? ⟨w2.heap.size + 1, 0, none⟩ = some (.int .i64 0) := t0
    have tf' : W.drew.frozen? ⟨w2.heap.size + 1, 0, none⟩ = false := tf
    have HDR : Hid (∀ w3, Below (w2.heap.size + 1) W.drew w3 → w3.cell? ⟨w.heap.size, 0, none⟩ = some (.slice none 0 0) ∧ w3.cell? ⟨w.heap.size, 1, none⟩ = some (.slice none 0 0) ∧ w3.cell? ⟨w2.heap.size, 0, none⟩ = some (.slice none 0 0) ∧ w3.cell? ⟨w2.heap.size, 1, none⟩ = some (.slice none 0 0) ∧ w3.frozen? ⟨w.heap.size, 0, none⟩ = false ∧ w3.frozen? ⟨w.heap.size, 1, none⟩ = false ∧ Below w.heap.size w w3) := Lib.hid fun w3 hb => ⟨(hb.cell (p := ⟨w.heap.size, 0, none⟩) hlw).trans d0, (hb.cell (p := ⟨w.heap.size, 1, none⟩) hlw).trans d1, (hb.cell (p := ⟨w2.heap.size, 0, none⟩) (Nat.lt_succ_self _)).trans e0, (hb.cell (p := ⟨w2.heap.size, 1, none⟩) (Nat.lt_succ_self _)).trans e1, (World.frozen?_of_block (hb.block _ hlw)).trans f0, (World.frozen?_of_block (hb.block _ hlw)).trans f1, HB6.out.drew.trans (hb.mono (by omega))⟩
    go_region_held3 (fun W1 => W1.cell? ⟨w2.heap.size, 0, none⟩ = some (.slice none 0 0) ∧ W1.cell? ⟨w2.heap.size, 1, none⟩ = some (.slice none 0 0))
      (first | exact ⟨e0, e1⟩ | exact ⟨k3, k4⟩ | go_keep)
      ((go_at_call 78; refine (as_hit_b x _ (.int .i64 0) _ HG3.out t0' tf').mono ?_; rintro e w3 ⟨rfl, hb7⟩; obtain ⟨k1', k2', k3, k4, k5', k6', hb8⟩ := HDR.out w3 hb7; clear hb7))
    have HRES : Hid (Below w.heap.size w ((w3.setCell ⟨w.heap.size, 0, none⟩ (.slice none 0 0)).setCell ⟨w.heap.size, 1, none⟩ (.slice none 0 0))) := Lib.hid ((hb8.setCell (p := ⟨w.heap.size, 0, none⟩) (Nat.le_refl _) _).setCell (p := ⟨w.heap.size, 1, none⟩) (Nat.le_refl _) _)
    clear hb8
    go_wp2
    refine bodyPost_ret (v := .tuple #[.agg #[.slice none 0 0, .slice none 0 0], .bool false]) (by simp [results, Tryd.results45, go_sem, *]) rfl ?_
    exact .inr ⟨hq, rfl, by first | exact HRES.out | exact HRES.out.drew⟩
end Go.Proofs.YtangofjpnhhfeabDoor
namespace Go.Proofs.YtangofjpnhhfeabDoor
open Go.RowKit
theorem mdec_on {f : Int} {xs ys : List Int} {k : Int} (h : DecOk f xs ys k) : mDecodeWord0 f xs ys k = decL f xs ys k.toNat ∧ mDecodeWord1 f xs ys k = (difN (encL f xs (decL f xs ys k.toNat)) ys : Nat) ∧ mDecodeWord2 f xs ys k = true := by
  unfold mDecodeWord0 mDecodeWord1 mDecodeWord2
  rw [if_pos h, if_pos h]
  exact ⟨rfl, rfl, by simp [h]⟩
theorem mdec_off {f : Int} {xs ys : List Int} {k : Int} (h : ¬ DecOk f xs ys k) : mDecodeWord0 f xs ys k = [] ∧ mDecodeWord1 f xs ys k = 0 ∧ mDecodeWord2 f xs ys k = false := by
  unfold mDecodeWord0 mDecodeWord1 mDecodeWord2
  rw [if_neg h, if_neg h]
  exact ⟨rfl, rfl, by simp [h]⟩
end Go.Proofs.YtangofjpnhhfeabDoor
namespace Go.Proofs.YtangofjpnhhfeabDoor
open Go.RowKit
theorem drewN_belowV (w : World) : ∀ q, Below w.heap.size w (w.drewN q)
  | 0 => Below.refl _ _
  | q + 1 => (drewN_belowV w q).drew
theorem decodeWord_c (f : Int) (a : Option Addr) (xs : List Int) (cap : Nat) (a2 : Option Addr) (ys : List Int) (cap2 : Nat) (k : Int) (w : World) (hn : xs.length ≤ 1048576) (hn2 : ys.length ≤ 1048576) (hs : SrcC w a xs.length cap (lf xs)) (hs2 : SrcC w a2 ys.length cap2 (lf ys)) (ht : Tab w) (hg : Ety w) : Calls Tryd.prog 45 #[.int .i64 f, .slice a xs.length cap, .slice a2 ys.length cap2, .int .i64 k] w (DwP f xs ys k w) := by
  have BA : ∀ o, Below w.heap.size w (w.alloc o) := fun o => (Below.refl _ _).alloc (Nat.le_refl _) o
  have HC : Hid (∀ o, Calls Tryd.prog 48 #[.int .i64 f, .slice a xs.length cap, .int .i64 k] (w.alloc o) (SameB (w.alloc o) (mCode f xs k))) := Lib.hid fun o => isCode_c f a xs cap k (w.alloc o) hn (hs.keep (BA o)) (ht.below (BA o))
  by_cases hw : WordOk f xs ys k
  · have hcode := hw.1
    have hp := hcode.2.1
    have hf := hp.1
    obtain ⟨K, rfl⟩ : ∃ K : Nat, k = K := ⟨k.toNat, by have := hcode.2.2.1; omega⟩
    have eK : (K : Int).toNat = K := Int.toNat_natCast K
    have hy := hw.2.1
    have k1 : 1 ≤ K := by have := hcode.2.2.1; omega
    have hk : K ≤ xs.length := by have := hcode.2.2.2; omega
    rw [code_iff.2 hcode] at HC
    have HA : Hid (∀ o, Calls Tryd.prog 54 #[.int .i64 f, .slice a2 xs.length cap2] (w.alloc o) (SameB (w.alloc o) true)) := Lib.hid fun o => by
      have := hasAll_c f a2 ys cap2 (w.alloc o) (ht.below (BA o)) hf.1 hf.2 hn2 (hs2.keep (BA o)).src true (by simp; exact hw.2.2)
      rwa [hy] at this
    have HT : Hid (∀ o, Calls Tryd.prog 55 #[.int .i64 f, .slice a xs.length cap] (w.alloc o) (fun e w' => ∃ b : Nat, e = .returned (.pointer (some ⟨b, 0, none⟩)) ∧ Below (w.alloc o).heap.size (w.alloc o) w' ∧ Calls Tryd.prog 77 #[.pointer (some ⟨b, 0, none⟩), .slice a2 xs.length cap2, .int .i64 K] w' (DecR f xs ys K w'))) := Lib.hid fun o => by
      refine (tree_pts f a xs cap (w.alloc o) (hs.keep (BA o)) (ht.below (BA o)) hp).mono ?_
      rintro e w' ⟨b, g, pl, pr, rfl, hgg, hN, hO, hT, hb⟩
      have hb2 := below_up (BA o) hb (BA o).size
      refine ⟨b, rfl, hb, decode_u f b g pl pr xs ys K a2 cap2 w' hT hN hO hp hy hw.2.2 hcode.1 k1 hk (ht.below hb2) ?_⟩
      have := (hs2.keep hb2).src
      rwa [hy] at this
    have h := dw_on f a xs.length cap a2 cap2 K xs ys w hg HC HA HT
    rw [hy]
    refine h.mono fun e w' h => ?_
    unfold DwP
    rw [eK]
    rcases h with ⟨hq, h⟩ | ⟨hq, h⟩
    · exact .inl ⟨⟨hw, by rw [eK]; exact hq⟩, h⟩
    · exact .inr ⟨fun hd => hq (by have := hd.2; rwa [eK] at this), h⟩
  · have hnd : ¬ DecOk f xs ys k := fun h => hw h.1
    refine (dw_off f a xs.length cap a2 ys.length cap2 k w (mCode f xs k) HC (Lib.hid fun o hB hmn => ?_)).mono fun e w' h => .inr ⟨hnd, h⟩
    have hcode := code_iff.1 hB
    have hf := hcode.2.1.1
    exact hasAll_c f a2 ys cap2 (w.alloc o) (ht.below (BA o)) hf.1 hf.2 hn2 (hs2.keep (BA o)).src false (by
      constructor
      · intro h; cases h
      · intro h; exact absurd ⟨hcode, hmn, h⟩ hw)
theorem blame_len {f : Int} {xs ys : List Int} {k : Int} (h : DecOk f xs ys k) : ((blameL f xs ys k.toNat).length : Int) = (difN (encL f xs (decL f xs ys k.toNat)) ys : Nat) := by
  unfold blameL
  rw [selL_len, difN_same (by rw [encL_len, h.1.2.1]), encL_len]
def OwnIB (w : World) (l : List Int) (d : Int) (b : Bool) (e : Ending) (w' : World) : Prop := ∃ a cap, e = .returned (.tuple #[.slice a l.length cap, .int .i64 d, .bool b]) ∧ OwnA w' w.heap.size a l cap ∧ Below w.heap.size w w'
set_option maxRecDepth 100000 in
set_option maxHeartbeats 1600000 in
theorem iDecodeWord (f : Int) (a : Option Addr) (xs : List Int) (cap : Nat) (a2 : Option Addr) (ys : List Int) (cap2 : Nat) (k : Int) (w : World) (hn : xs.length ≤ 1048576) (hn2 : ys.length ≤ 1048576) (hs : SrcC w a xs.length cap (lf xs)) (hs2 : SrcC w a2 ys.length cap2 (lf ys)) (ht : Tab w) (hg : Ety w) : Calls Tryd.prog 12 #[.int .i64 f, .slice a xs.length cap, .slice a2 ys.length cap2, .int .i64 k] w (OwnIB w (mDecodeWord0 f xs ys k) (mDecodeWord1 f xs ys k) (mDecodeWord2 f xs ys k)) := by
  have HD := Lib.hid (decodeWord_c f a xs cap a2 ys cap2 k w hn hn2 hs hs2 ht hg)
  have HON : Hid (∀ (gm c L : Nat) (a7 : Option Addr) (w1 : World), DecOk f xs ys k → (blameL f xs ys k.toNat).length = L → w.heap.size ≤ gm → Own w1 gm k.toNat (lf (decL f xs ys k.toNat)) → Below w.heap.size w w1 → ∀ q, OwnIB w (mDecodeWord0 f xs ys k) (mDecodeWord1 f xs ys k) (mDecodeWord2 f xs ys k) (.returned (.tuple #[.slice (some ⟨gm, 0, none⟩) k.toNat k.toNat, .int .i64 L, .bool true])) ((w1.alloc (.cells #[.slice (some ⟨gm, 0, none⟩) k.toNat k.toNat, .slice a7 L c] 51)).drewN q)) := Lib.hid fun gm c L a7 w1 h hL hgm ho hb q => by
    obtain ⟨m0, m1, m2⟩ := mdec_on h
    rw [m0, m1, m2, ← blame_len h, hL]
    have hq := decL_is h
    have ho2 := ho.keep ((Below.refl w1.heap.size w1).alloc (Nat.le_refl _) (.cells #[.slice (some ⟨gm, 0, none⟩) k.toNat k.toNat, .slice a7 L c] 51))
    have hb2 := hb.alloc hb.size (.cells #[.slice (some ⟨gm, 0, none⟩) k.toNat k.toNat, .slice a7 L c] 51)
    have bq := drewN_belowV (w1.alloc (.cells #[.slice (some ⟨gm, 0, none⟩) k.toNat k.toNat, .slice a7 L c] 51)) q
    exact ⟨some ⟨gm, 0, none⟩, k.toNat, by rw [hq.1], .inr ⟨gm, rfl, hq.1.symm, hgm, by rw [hq.1]; exact ho2.keep bq⟩, below_up hb2 bq hb2.size⟩
  have HOFF : Hid (∀ w1, ¬ DecOk f xs ys k → Below w.heap.size w w1 → OwnIB w (mDecodeWord0 f xs ys k) (mDecodeWord1 f xs ys k) (mDecodeWord2 f xs ys k) (.returned (.tuple #[.slice none 0 0, .int .i64 0, .bool false])) w1) := Lib.hid fun w1 h hb => by
    obtain ⟨m0, m1, m2⟩ := mdec_off h
    rw [m0, m1, m2]
    exact ⟨none, 0, rfl, OwnA.nil rfl, hb⟩
  clear hs hs2 ht hg
  generalize mDecodeWord0 f xs ys k = R0 at *
  generalize mDecodeWord1 f xs ys k = R1 at *
  generalize mDecodeWord2 f xs ys k = R2 at *
  go_enter Tryd.func12, Tryd.ntmps12
  go_wp2_with fail
  refine HD.out.mono ?_
  intro e w1 h1
  rcases h1 with ⟨hd, gm, a7, c7, rfl, hgm, om, m7, hb⟩ | ⟨hd, rfl, hb⟩
  · obtain ⟨L, hL⟩ : ∃ L, (blameL f xs ys k.toNat).length = L := ⟨_, rfl⟩
    have HR := Lib.hid (HON.out gm c7 L a7 w1 hd hL hgm om hb)
    rw [hL]
    clear om m7 hb HON HOFF
    go_wp2
    go_quiet (fail)
    rename_i nq
    have HR2 := Lib.hid (HR.out nq)
    go_wp2
    go_ret3
    exact HR2.out
  · have hb2 := hb.alloc hb.size (.cells #[.slice none 0 0, .slice none 0 0] 51)
    have HR : Hid (∀ q, OwnIB w R0 R1 R2 (.returned (.tuple #[.slice none 0 0, .int .i64 0, .bool false])) ((w1.alloc (.cells #[.slice none 0 0, .slice none 0 0] 51)).drewN q)) := Lib.hid fun q => HOFF.out _ hd (below_up hb2 (drewN_belowV _ q) hb2.size)
    clear hb hb2 HON HOFF
    go_wp2
    go_quiet (fail)
    rename_i nq
    have HR2 := Lib.hid (HR.out nq)
    go_wp2
    go_ret3
    exact HR2.out
set_option maxRecDepth 100000 in
theorem iBlame (f : Int) (a : Option Addr) (xs : List Int) (cap : Nat) (a2 : Option Addr) (ys : List Int) (cap2 : Nat) (k : Int) (w : World) (hn : xs.length ≤ 1048576) (hn2 : ys.length ≤ 1048576) (hs : SrcC w a xs.length cap (lf xs)) (hs2 : SrcC w a2 ys.length cap2 (lf ys)) (ht : Tab w) (hg : Ety w) : Calls Tryd.prog 17 #[.int .i64 f, .slice a xs.length cap, .slice a2 ys.length cap2, .int .i64 k] w (OwnLM w (mBlame f xs ys k)) := by
  have HD := Lib.hid (decodeWord_c f a xs cap a2 ys cap2 k w hn hn2 hs hs2 ht hg)
  have HON : Hid (∀ (c L : Nat) (v : Value) (a7 : Option Addr) (w1 : World), DecOk f xs ys k → (blameL f xs ys k.toNat).length = L → OwnM w1 w.heap.size a7 (blameL f xs ys k.toNat) c → Below w.heap.size w w1 → OwnLM w (mBlame f xs ys k) (.returned (.slice a7 L c)) (w1.alloc (.cells #[v, .slice a7 L c] 51))) := Lib.hid fun c L v a7 w1 h hL hm hb => by
    have e : mBlame f xs ys k = blameL f xs ys k.toNat := by unfold mBlame; rw [if_pos h]
    rw [e]
    subst hL
    exact ⟨a7, c, rfl, hm.keep ((Below.refl w1.heap.size w1).alloc (Nat.le_refl _) _), hb.alloc hb.size _⟩
  have HOFF : Hid (∀ w1, ¬ DecOk f xs ys k → Below w.heap.size w w1 → OwnLM w (mBlame f xs ys k) (.returned (.slice none 0 0)) w1) := Lib.hid fun w1 h hb => nil_m (by unfold mBlame; rw [if_neg h]) hb
  clear hs hs2 ht hg
  generalize mBlame f xs ys k = R at *
  go_enter Tryd.func17, Tryd.ntmps17
  go_wp2_with fail
  refine HD.out.mono ?_
  intro e w1 h1
  rcases h1 with ⟨hd, gm, a7, c7, rfl, hgm, om, m7, hb⟩ | ⟨hd, rfl, hb⟩
  · obtain ⟨L, hL⟩ : ∃ L, (blameL f xs ys k.toNat).length = L := ⟨_, rfl⟩
    have HR := Lib.hid (HON.out c7 L (.slice (some ⟨gm, 0, none⟩) k.toNat k.toNat) a7 w1 hd hL m7 hb)
    rw [hL]
    clear om m7 hb HON HOFF
    go_wp2
    go_ret
    exact HR.out
  · have HR := Lib.hid (HOFF.out (w1.alloc (.cells #[.slice none 0 0, .slice none 0 0] 51)) hd (hb.alloc hb.size _))
    clear hb HON HOFF
    go_wp2
    go_ret
    exact HR.out
end Go.Proofs.YtangofjpnhhfeabDoor
namespace Go.Proofs.YtangofjpnhhfeabDoor
open Go.RowKit
theorem ListIB.up {u w w' : World} {l : List Int} {d : Int} {b : Bool} {e : Ending} (h : ListIB w l d b e w') (hb : Below u.heap.size u w) : ListIB u l d b e w' := by
  obtain ⟨a, c, h1, h2, h3, h4⟩ := h
  exact ⟨a, c, h1, h2, h3, below_up hb h4 hb.size⟩
end Go.Proofs.YtangofjpnhhfeabDoor
namespace Go.Proofs.YtangofjpnhhfeabDoor
open Go.RowKit
theorem OwnsL.slice {w w' : World} {l : List Int} {e : Ending} (h : OwnsL w l e w') : ∃ a c, e = .returned (.slice a l.length c) ∧ SrcC w' a l.length c (lf l) ∧ Below w.heap.size w w' := by
  obtain ⟨a, c, h1, h2, h3⟩ := h.m
  exact ⟨a, c, h1, h2.srcC, h3⟩
theorem OwnIB.up {u w w' : World} {l : List Int} {d : Int} {b : Bool} {e : Ending} (h : OwnIB w l d b e w') (hb : Below u.heap.size u w) : OwnIB u l d b e w' := by
  obtain ⟨a, c, h1, h2, h3⟩ := h
  exact ⟨a, c, h1, h2.low hb.size, below_up hb h3 hb.size⟩
end Go.Proofs.YtangofjpnhhfeabDoor
namespace Go.Proofs.YtangofjpnhhfeabDoor
open Go.RowKit
theorem InvAt.list {f : Int} {a : List Int} {w w' : World} {v : Value} (ha : SerOk f a) (h : InvAt f (lf a) w w' v a.length) : ∃ x c, v = .slice x (invL f a).length c ∧ Src w' x (invL f a).length (lf (invL f a)) ∧ Below w.heap.size w w' ∧ QInv f a (invL f a) := by
  obtain ⟨O, hO, hinv, hown, hb⟩ := h
  have hp := P_bd ha.1.1 ha.1.2
  have hq : QInv f a (tab a.length O) := ⟨tab_ser (by omega) hO, inv_tab hinv⟩
  rw [invL_eq hq]
  obtain ⟨x, c, hv, hS, hB⟩ := (owns_to (w := w) (l := tab a.length O) hown (tab_len _ _).symm (fun j hj => by rw [lf_tab, if_pos hj]) hb).list
  exact ⟨x, c, Ending.returned.inj hv, hS, hB, hq⟩
end Go.Proofs.YtangofjpnhhfeabDoor
namespace Go.Proofs.YtangofjpnhhfeabDoor
open Go.RowKit
theorem one_bd {f : Int} (h0 : 0 ≤ f) (h8 : f ≤ 8) (j : Nat) : 0 ≤ oneS j ∧ oneS j < P f := by
  have := P_bd h0 h8
  show 0 ≤ (if j = 0 then (1 : Int) else 0) ∧ (if j = 0 then (1 : Int) else 0) < P f
  split <;> omega
/-- The coefficients of an exponential so far. -/
def ExpAt (f : Int) (A : Nat → Int) (w wr : World) (v : Value) (k : Nat) : Prop := ∃ O : Nat → Int, (∀ j, 0 ≤ O j ∧ O j < P f) ∧ (IsLog (P f) k A O ∧ O 0 = 1) ∧ wr.ownsRow w.heap.size 3 1 v k (xsF O k) ∧ Below w.heap.size w wr
theorem log_tab {p : Int} {n : Nat} {A O : Nat → Int} (h : IsLog p n A O) : IsLog p n A (lf (tab n O)) := by
  intro i hi
  have e : cv i (thS A) (lf (tab n O)) = cv i (thS A) O := cv_congr (fun _ _ => rfl) (fun j hj => by rw [lf_tab, if_pos (by omega)])
  show ((i : Int) * lf (tab n O) i) % p = cv i (thS A) (lf (tab n O)) % p
  rw [e, lf_tab, if_pos hi]
  exact h i hi
theorem ExpAt.list {f : Int} {a : List Int} {w w' : World} {v : Value} (ha : ShortOk f a) (h : ExpAt f (lf a) w w' v a.length) : ∃ x c, v = .slice x (expL f a).length c ∧ Src w' x (expL f a).length (lf (expL f a)) ∧ Below w.heap.size w w' ∧ QExp f a (expL f a) := by
  obtain ⟨O, hO, hinv, hown, hb⟩ := h
  have hp := P_bd ha.1.1.1 ha.1.1.2
  have n1 := ha.1.2.1
  have hq : QExp f a (tab a.length O) := ⟨tab_ser (by omega) hO, by rw [lf_tab, if_pos (by omega)]; exact hinv.2, log_tab hinv.1⟩
  rw [expL_eq ha hq]
  obtain ⟨x, c, hv, hS, hB⟩ := (owns_to (w := w) (l := tab a.length O) hown (tab_len _ _).symm (fun j hj => by rw [lf_tab, if_pos hj]) hb).list
  exact ⟨x, c, Ending.returned.inj hv, hS, hB, hq⟩
end Go.Proofs.YtangofjpnhhfeabDoor
namespace Go.Proofs.YtangofjpnhhfeabDoor
open Go.RowKit
/-- The coefficients of a square root so far. -/
def SqrtAt (f : Int) (A : Nat → Int) (w wr : World) (v : Value) (k : Nat) : Prop := ∃ O : Nat → Int, (∀ j, 0 ≤ O j ∧ O j < P f) ∧ (EqN (P f) k (mulS O O) A ∧ O 0 = 1) ∧ wr.ownsRow w.heap.size 3 1 v k (xsF O k) ∧ Below w.heap.size w wr
theorem sqrt_tab {p : Int} {n : Nat} {A O : Nat → Int} (h : EqN p n (mulS O O) A) : EqN p n (mulS (lf (tab n O)) (lf (tab n O))) A := ((tab_eq p n O).mul (tab_eq p n O)).trans h
theorem SqrtAt.list {f : Int} {a : List Int} {w w' : World} {v : Value} (ha : SerOk f a) (h : SqrtAt f (lf a) w w' v a.length) : ∃ x c, v = .slice x (sqrtL f a).length c ∧ Src w' x (sqrtL f a).length (lf (sqrtL f a)) ∧ Below w.heap.size w w' ∧ QSqrt f a (sqrtL f a) := by
  obtain ⟨O, hO, hinv, hown, hb⟩ := h
  have hp := P_bd ha.1.1 ha.1.2
  have n1 := ha.2.1
  have hq : QSqrt f a (tab a.length O) := ⟨tab_ser (by omega) hO, by rw [lf_tab, if_pos (by omega)]; exact hinv.2, sqrt_tab hinv.1⟩
  rw [sqrtL_eq ha hq]
  obtain ⟨x, c, hv, hS, hB⟩ := (owns_to (w := w) (l := tab a.length O) hown (tab_len _ _).symm (fun j hj => by rw [lf_tab, if_pos hj]) hb).list
  exact ⟨x, c, Ending.returned.inj hv, hS, hB, hq⟩
end Go.Proofs.YtangofjpnhhfeabDoor
namespace Go.Proofs.YtangofjpnhhfeabDoor
open Go.RowKit
/-- Powers by squaring: O times X to the k is what is wanted. -/
def SPAt (f : Int) (n : Nat) (B : Nat → Int) (E k : Nat) (O X : List Int) : Prop := Ser f n O ∧ Ser f n X ∧ EqN (P f) n (mulS (lf O) (powS (lf X) k)) (powS B E)
theorem smul_eq {f : Int} {n : Nat} {O X : List Int} (hO : Ser f n O) : EqN (P f) n (lf (smulL f O X)) (mulS (lf O) (lf X)) := by
  have : EqN (P f) O.length (lf (smulL f O X)) (mulS (lf O) (lf X)) := elL_eq _ _
  rwa [hO.1] at this
theorem smul_ser {f : Int} (h0 : 0 ≤ f) (h8 : f ≤ 8) {n : Nat} {O X : List Int} (hO : Ser f n O) : Ser f n (smulL f O X) := by
  have : Ser f O.length (smulL f O X) := elL_ser h0 h8 _ _
  rwa [hO.1] at this
theorem sq_pow (A : Nat → Int) (h : Nat) : powS (mulS A A) h = powS A (h + h) := by rw [pow_mulS, ← pow_addS]
theorem SPAt.odd {f : Int} (h0 : 0 ≤ f) (h8 : f ≤ 8) {n : Nat} {B : Nat → Int} {E k : Nat} {O X : List Int} (h : SPAt f n B E k O X) (hk : k % 2 = 1) : SPAt f n B E (k / 2) (smulL f O X) (smulL f X X) := by
  refine ⟨smul_ser h0 h8 h.1, smul_ser h0 h8 h.2.1, ?_⟩
  have e := (smul_eq (X := X) h.1).mul (EqN.pow (smul_eq (X := X) h.2.1) (k / 2))
  refine e.trans ?_
  have e2 : powS (lf X) k = mulS (powS (lf X) (k / 2 + k / 2)) (lf X) := by
    have : k = (k / 2 + k / 2) + 1 := by omega
    exact congrArg (powS (lf X)) this
  rw [sq_pow, mul_assocS, mul_commS (lf X), ← e2]
  exact h.2.2
theorem SPAt.start {f : Int} (h0 : 0 ≤ f) (h8 : f ≤ 8) {n : Nat} {X : List Int} (hX : Ser f n X) (E : Nat) : SPAt f n (lf X) E E (tab n oneS) X := by
  have hp := P_bd h0 h8
  refine ⟨tab_ser (by omega) (one_bd h0 h8), hX, ?_⟩
  have e := (tab_eq (P f) n oneS).mul (EqN.refl (P f) n (powS (lf X) E))
  rwa [one_mul] at e
end Go.Proofs.YtangofjpnhhfeabDoor
namespace Go.Proofs.YtangofjpnhhfeabDoor
open Go.RowKit
def eS (A : Nat → Int) : Nat → Int := fun k => if k = 0 then 1 else A (k - 1)
/-- The power sums so far. -/
def NewtAt (f : Int) (A : Nat → Int) (w wr : World) (v : Value) (k : Nat) : Prop := ∃ O : Nat → Int, (∀ j, 0 ≤ O j ∧ O j < P f) ∧ IsNewt (P f) k (eS A) O ∧ wr.ownsRow w.heap.size 3 1 v k (xsF O k) ∧ Below w.heap.size w wr
theorem newt_tab {p : Int} {n : Nat} {E O : Nat → Int} (h : IsNewt p n E O) : IsNewt p n E (lf (tab n O)) := by
  intro i hi
  have e : cv i (sgnS (lf (tab n O))) E = cv i (sgnS O) E := cv_congr (fun j hj => by
    unfold sgnS
    by_cases hz : j = 0
    · rw [if_pos hz, if_pos hz]
    · rw [if_neg hz, if_neg hz, lf_tab, if_pos (by omega)]) (fun _ _ => rfl)
  show thS E i % p = cv i (sgnS (lf (tab n O))) E % p
  rw [e]
  exact h i hi
theorem NewtAt.list {f : Int} {a : List Int} {w w' : World} {v : Value} (ha : SerOk f a) (h : NewtAt f (lf a) w w' v a.length) : ∃ x c, v = .slice x (newtL f a).length c ∧ Src w' x (newtL f a).length (lf (newtL f a)) ∧ Below w.heap.size w w' ∧ QNewt f a (newtL f a) := by
  obtain ⟨O, hO, hinv, hown, hb⟩ := h
  have hp := P_bd ha.1.1 ha.1.2
  have hq : QNewt f a (tab a.length O) := ⟨tab_ser (by omega) hO, newt_tab hinv⟩
  rw [newtL_eq ha hq]
  obtain ⟨x, c, hv, hS, hB⟩ := (owns_to (w := w) (l := tab a.length O) hown (tab_len _ _).symm (fun j hj => by rw [lf_tab, if_pos hj]) hb).list
  exact ⟨x, c, Ending.returned.inj hv, hS, hB, hq⟩
end Go.Proofs.YtangofjpnhhfeabDoor
namespace Go.Proofs.YtangofjpnhhfeabDoor
open Go.RowKit
/-- A row that was drawn. -/
def SK (g : Nat) (w W : World) (g2 n cap : Nat) : Prop := (∃ F : Nat → Int, OwnV W g2 n cap F) ∧ g2 ≠ g ∧ w.heap.size ≤ g2 ∧ Cur g W ∧ w.grownBy W (some g)
theorem SK.grown {g : Nat} {w W W' : World} {g2 n cap : Nat} (h : SK g w W g2 n cap) (hg : W.grownBy W' (some g)) (hc : Cur g W') : SK g w W' g2 n cap := by
  obtain ⟨⟨F, ho⟩, hne, h2, _, hw⟩ := h
  exact ⟨⟨F, ho.grown hg hne⟩, hne, h2, hc, hw.trans hg⟩
theorem SK.put {g : Nat} {w W : World} {g2 n cap k : Nat} {y : Int} (h : SK g w W g2 n cap) (hB : g < w.heap.size) : SK g w (W.setCell ⟨g2, k, none⟩ (.int .i64 y)) g2 n cap := by
  obtain ⟨⟨F, ho⟩, hne, h2, hc, hw⟩ := h
  have hset : W.grownBy (W.setCell ⟨g2, k, none⟩ (.int .i64 y)) (some g2) := grown_set (World.grownBy.refl _ _) _ _
  exact ⟨⟨upd F k y, ho.set⟩, hne, h2, hc.other hset (fun r hr => by injection hr with hr; omega), grown_new hw hset (fun r hr => by injection hr with hr; omega)⟩
/-- A list in a row that may be written, from block B on. -/
def WrB (W : World) (B : Nat) (a : Option Addr) (l : List Int) (cap : Nat) : Prop := l.length = 0 ∨ ∃ g2, a = some ⟨g2, 0, none⟩ ∧ B ≤ g2 ∧ OwnV W g2 l.length cap (lf l)
def WrG (W : World) (B g : Nat) (a : Option Addr) (l : List Int) (cap : Nat) : Prop := l.length = 0 ∨ ∃ g2, a = some ⟨g2, 0, none⟩ ∧ g2 ≠ g ∧ B ≤ g2 ∧ OwnV W g2 l.length cap (lf l)
theorem WrG.wr {W : World} {B g : Nat} {a : Option Addr} {l : List Int} {cap : Nat} (h : WrG W B g a l cap) : WrB W B a l cap := by
  rcases h with h | ⟨g2, h1, _, h2, h3⟩
  · exact .inl h
  · exact .inr ⟨g2, h1, h2, h3⟩
theorem WrG.grown {W W' : World} {B g : Nat} {a : Option Addr} {l : List Int} {cap : Nat} (h : WrG W B g a l cap) (hg : W.grownBy W' (some g)) : WrG W' B g a l cap := by
  rcases h with h | ⟨g2, h1, hne, h2, h3⟩
  · exact .inl h
  · exact .inr ⟨g2, h1, hne, h2, h3.grown hg hne⟩
theorem WrB.src {W : World} {B : Nat} {a : Option Addr} {l : List Int} {cap : Nat} (h : WrB W B a l cap) : Src W a l.length (lf l) := by
  rcases h with h | ⟨g2, rfl, _, h3⟩
  · exact .inl h
  · exact h3.src
theorem WrB.keep {W W' : World} {B : Nat} {a : Option Addr} {l : List Int} {cap : Nat} (h : WrB W B a l cap) (hb : Below W.heap.size W W') : WrB W' B a l cap := by
  rcases h with h | ⟨g2, h1, h2, h3⟩
  · exact .inl h
  · exact .inr ⟨g2, h1, h2, h3.keep hb⟩
def ZW (g : Nat) (w : World) (n : Nat) (e : Ending) (w' : World) : Prop := ∃ (l : List Int) (a : Option Addr) (cap : Nat), e = .returned (.slice a l.length cap) ∧ l.length = n ∧ WrG w' w.heap.size g a l cap ∧ Cur g w' ∧ w.grownBy w' (some g)
theorem SK.pol {g : Nat} {w W : World} {g2 n cap : Nat} (h : SK g w W g2 n cap) : ZW g w n (.returned (.slice (some ⟨g2, 0, none⟩) n cap)) W := by
  obtain ⟨⟨F, ho⟩, hne, h2, hc, hw⟩ := h
  refine ⟨tab n F, some ⟨g2, 0, none⟩, cap, by rw [tab_len], tab_len _ _, .inr ⟨g2, rfl, hne, h2, ?_⟩, hc, hw⟩
  rw [tab_len]
  exact ho.congr fun j hj => by rw [lf_tab, if_pos hj]
end Go.Proofs.YtangofjpnhhfeabDoor
namespace Go.Proofs.YtangofjpnhhfeabDoor
open Go.RowKit
def ZPts (g : Nat) (w : World) (n : Nat) (e : Ending) (w' : World) : Prop := ∃ m, 1 ≤ m ∧ m ≤ n ∧ ZW g w m e w'
theorem hasF_pos {F : Nat → Int} {m : Nat} {x : Int} (h : hasF F m x = true) : 0 < m := by
  unfold hasF at h
  simp only [decide_eq_true_eq] at h
  obtain ⟨j, hj, _⟩ := h
  omega
set_option maxRecDepth 100000 in
set_option maxHeartbeats 3200000 in
theorem drawPoints_c (g : Nat) (f : Int) (n : Nat) (w : World) (hc : Cur g w) (n1 : 1 ≤ n) (hn : n ≤ 4096) : Calls Tryd.prog 83 #[.pointer (some ⟨g, 0, none⟩), .int .i64 f, .int .i64 n] w (ZPts g w n) := by
  obtain ⟨i0, hi, hz0, hz1, hz2⟩ := info_parts info3
  have HI := Lib.hid hi
  have HZ0 := Lib.hid hz0
  have HZ1 := Lib.hid hz1
  have HZ2 := Lib.hid hz2
  clear hi hz0 hz1 hz2
  have HMO := Lib.hid (sModulus f)
  generalize P f = MM at *
  have hB : g < w.heap.size := hc.lt
  go_enter Tryd.func83, Tryd.ntmps83
  go_wp2_with fail
  go_loopw [7, 8, 9] (fun v i _ wr => ∃ k m : Nat, i = .int .i64 k ∧ k ≤ n ∧ m ≤ k ∧ (0 < k → 0 < m) ∧ ZAt g w wr v m) (fun _ i _ _ => n - (intOf i).toNat)
  case atStart => exact ⟨0, 0, rfl, by omega, by omega, by omega, ⟨fun _ => 0, own_empty w (fun _ => 0)⟩, hc.alloc _, World.grownBy_alloc _ _ _, by simp⟩
  case round =>
    obtain ⟨k, m, rfl, hk, hmk, hm0, ⟨F, hown⟩, hcur, hbel, hsz⟩ := hrel
    by_cases hlt : k < n
    · have hd : decide ((k : Int) < n) = true := decide_eq_true (by omega)
      go_wp2_with fail
      refine (element_c g f wr hcur).mono ?_
      rintro e w9 ⟨x9, _, rfl, g9, c9⟩
      have hown9 := hown.kept g9 (zown_ne hB hown)
      have hb9 := hbel.trans g9
      have hs9 : w.heap.size ≤ w9.heap.size := Nat.le_trans hsz g9.size
      clear hown hcur hbel g9
      obtain ⟨a9, cap9, rfl, _, hs9s⟩ := src_of_owns2 hown9
      have HH := Lib.hid (has_c a9 m cap9 F x9 w9 (by omega) hs9s)
      clear hs9s
      cases hB2 : hasF F m x9
      · rw [hB2] at HH
        go_wp2_with fail
        refine HH.out.mono ?_
        rintro e w' ⟨rfl, rfl⟩
        have hcap4 : m ≤ 4096 := by omega
        go_wp2_with (at_builtin; refine wpList_append_own _ rfl _ _ 22 rfl w.heap.size 3 i0 (.int .i64 0) 1 8 Tryd.underlying22 HI.out HZ0.out HZ1.out HZ2.out rfl (by decide) _ _ _ rfl (hown9.alloc _) ⟨w9.heap.size, 0, none⟩ 1 1 [.int .i64 x9] rfl rfl ?c1 ?c2 ?c3 ?c4 ?c5 ?_)
        case c1 => exact cell_one_new _ _ _
        case c2 => intro u hu; simp at hu; subst hu; rfl
        case c3 => unfold maxLen; omega
        case c4 => omega
        case c5 => simp; omega
        intro v' w10 hown' hgrow _
        have hst := zdraw_step hB hb9 c9 hown9 hown' hgrow
        clear hgrow hown' hown9 c9 hb9
        go_wp2
        go_roundw
        case rel => exact ⟨k + 1, m + 1, by go_num, by omega, by omega, fun _ => by omega, hst⟩
        case measure => simp [intOf]; omega
      · rw [hB2] at HH
        have hmp := hasF_pos hB2
        go_wp2_with fail
        refine HH.out.mono ?_
        rintro e w' ⟨rfl, rfl⟩
        go_wp2_with fail
        refine (once_c g 60 w9 c9 (by omega) (by omega)).mono ?_
        rintro e w11 ⟨b11, rfl, g11, c11⟩
        have hown11 := hown9.kept g11 (zown_ne hB hown9)
        have hb11 := hb9.trans g11
        have hs11 : w.heap.size ≤ w11.heap.size := Nat.le_trans hs9 g11.size
        clear hown9 c9 hb9 g11 HH hs9
        cases b11
        · go_wp2
          go_roundw
          case rel => exact ⟨k + 1, m, by go_num, by omega, by omega, fun _ => hmp, ⟨F, hown11⟩, c11, hb11, hs11⟩
          case measure => simp [intOf]; omega
        · skip
          have hcap4 : m ≤ 4096 := by omega
          go_wp2_with (at_builtin; refine wpList_append_own _ rfl _ _ 22 rfl w.heap.size 3 i0 (.int .i64 0) 1 8 Tryd.underlying22 HI.out HZ0.out HZ1.out HZ2.out rfl (by decide) _ _ _ rfl (hown11.alloc _) ⟨w11.heap.size, 0, none⟩ 1 1 [.int .i64 x9] rfl rfl ?d1 ?d2 ?d3 ?d4 ?d5 ?_)
          case d1 => exact cell_one_new _ _ _
          case d2 => intro u hu; simp at hu; subst hu; rfl
          case d3 => unfold maxLen; omega
          case d4 => omega
          case d5 => simp; omega
          intro v' w10 hown' hgrow _
          have hst := zdraw_step hB hb11 c11 hown11 hown' hgrow
          clear hgrow hown' hown11 c11 hb11
          go_wp2
          go_roundw
          case rel => exact ⟨k + 1, m + 1, by go_num, by omega, by omega, fun _ => by omega, hst⟩
          case measure => simp [intOf]; omega
    · have hd : decide ((k : Int) < n) = false := decide_eq_false (by omega)
      obtain rfl : k = n := by omega
      have hm1 : m ≠ 0 := by have := hm0 (by omega); omega
      obtain ⟨g2, cap2, rfl, hg2, ho2⟩ := OwnV.of_owns hown hm1
      have hne : g2 ≠ g := by omega
      have HSK : Hid (SK g w wr g2 m cap2) := Lib.hid ⟨⟨F, ho2⟩, hne, hg2, hcur, hbel⟩
      have dk : decide ((0 : Int) < m) = true := decide_eq_true (by omega)
      have dkn : decide (0 < m) = true := decide_eq_true (by omega)
      clear hown hbel ho2
      go_wp2_with fail
      refine (once_c g 25 wr hcur (by omega) (by omega)).mono ?_
      rintro e w1 ⟨b1, rfl, g1, c1⟩
      have HS2 := Lib.hid (HSK.out.grown g1 c1)
      clear HSK g1 hcur
      cases b1
      · have HP := Lib.hid HS2.out.pol
        clear HS2
        go_wp2
        go_ret
        exact ⟨m, by omega, hmk, HP.out⟩
      · go_wp2_with fail
        refine (below_c g m w1 c1 (by omega) (by omega)).mono ?_
        rintro e w2 ⟨t, ⟨t0, t1⟩, rfl, g4, c2⟩
        obtain ⟨t, rfl⟩ := Int.eq_ofNat_of_zero_le t0
        have HS3 := Lib.hid (HS2.out.grown g4 c2)
        clear HS2 g4 c1
        go_wp2_with fail
        refine (HMO.out w2).mono ?_
        rintro e w' ⟨rfl, rfl⟩
        go_wp2_with fail
        refine (pick_c (fun _ => True) g w2.heap.size 2 2 _ (c2.alloc _) (by omega) (by omega) (ints_alloc (fun _ => True) c2.lt #[.int .i64 (-1), .int .i64 MM] 3 (fun j hj => by
          have h3 : j = 0 ∨ j = 1 := by have : j < 2 := hj; omega
          rcases h3 with rfl | rfl <;> exact ⟨_, rfl, trivial⟩))).mono ?_
        rintro e w10 ⟨y, _, rfl, g10, c10⟩
        have HS4 := Lib.hid (HS3.out.grown ((World.grownBy_alloc w2 _ (some g)).trans g10) c10)
        have HF := Lib.hid (HS4.out.put (k := t) (y := y) hB).pol
        obtain ⟨⟨F4, ho4⟩, _⟩ := HS4.out
        have cc := ho4.cell (show t < m by omega)
        have fr := ho4.frozen t
        have tn : (t : Int) < (m : Int) := t1
        clear HS3 HS4 g10 ho4
        go_wp2
        go_ret
        exact ⟨m, by omega, hmk, HF.out⟩
end Go.Proofs.YtangofjpnhhfeabDoor
namespace Go.Proofs.YtangofjpnhhfeabDoor
open Go.RowKit
theorem wrg_cap {W : World} {B g : Nat} {a : Option Addr} {l : List Int} {cap : Nat} (h : WrG W B g a l cap) : l.length ≤ cap := by
  rcases h with h | ⟨g2, _, _, _, V, _, h3, _⟩
  · omega
  · exact h3
end Go.Proofs.YtangofjpnhhfeabDoor
namespace Go.Proofs.YtangofjpnhhfeabDoor
open Go.RowKit
/-- A list that lies below a bound, in a block other than the cursor's. -/
def XM (S g : Nat) (W : World) (a : Option Addr) (l : List Int) (cap : Nat) : Prop := l.length ≤ cap ∧ (l.length = 0 ∨ ∃ b off, a = some ⟨b, off, none⟩ ∧ b ≠ g ∧ b < S ∧ b < W.heap.size ∧ ∀ j, j < l.length → W.cell? ⟨b, off + j, none⟩ = some (.int .i64 (lf l j)))
theorem XM.src {S g : Nat} {W : World} {a : Option Addr} {l : List Int} {cap : Nat} (h : XM S g W a l cap) : SrcC W a l.length cap (lf l) := by
  refine ⟨h.1, ?_⟩
  rcases h.2 with h | ⟨b, off, h1, _, _, h2, h3⟩
  · exact .inl h
  · exact .inr ⟨b, off, h1, h2, h3⟩
theorem XM.grown {S g : Nat} {W W' : World} {a : Option Addr} {l : List Int} {cap : Nat} (h : XM S g W a l cap) (hg : W.grownBy W' (some g)) : XM S g W' a l cap := by
  refine ⟨h.1, h.2.imp id ?_⟩
  rintro ⟨b, off, h1, hne, hS, h2, h3⟩
  exact ⟨b, off, h1, hne, hS, Nat.lt_of_lt_of_le h2 hg.size, fun j hj => hg.cell (h3 j hj) (fun e => by injection e with e; exact hne e)⟩
theorem XM.row {S g : Nat} {W W' : World} {a : Option Addr} {l : List Int} {cap : Nat} {row : Option Nat} (h : XM S g W a l cap) (hg : W.grownBy W' row) (hr : ∀ k, row = some k → S ≤ k) : XM S g W' a l cap := by
  refine ⟨h.1, h.2.imp id ?_⟩
  rintro ⟨b, off, h1, hne, hS, h2, h3⟩
  exact ⟨b, off, h1, hne, hS, Nat.lt_of_lt_of_le h2 hg.size, fun j hj => hg.cell (h3 j hj) (fun e => by have := hr b e.symm; omega)⟩
theorem XM.mono {S S' g : Nat} {W : World} {a : Option Addr} {l : List Int} {cap : Nat} (h : XM S g W a l cap) (hS : S ≤ S') : XM S' g W a l cap := by
  refine ⟨h.1, h.2.imp id ?_⟩
  rintro ⟨b, off, h1, hne, hs, h2, h3⟩
  exact ⟨b, off, h1, hne, by omega, h2, h3⟩
theorem XM.of {B g : Nat} {W : World} {a : Option Addr} {l : List Int} {cap : Nat} (h : WrG W B g a l cap) : XM W.heap.size g W a l cap := by
  refine ⟨wrg_cap h, ?_⟩
  rcases h with h | ⟨g2, h1, hne, _, h3⟩
  · exact .inl h
  · exact .inr ⟨g2, 0, h1, hne, h3.lt, h3.lt, fun j hj => by rw [Nat.zero_add]; exact h3.cell hj⟩
theorem XM.ofRow {B g : Nat} {W : World} {v : Value} {n : Nat} {F : Nat → Int} (h : W.ownsRow B 3 1 v n (xsF F n)) (hB : g < B) : ∃ a cap, v = .slice a (tab n F).length cap ∧ XM W.heap.size g W a (tab n F) cap := by
  obtain ⟨a, cap, hv, hc, hs⟩ := SrcO.of (owns_to_tab h) hB
  refine ⟨a, cap, hv, hc, hs.imp id ?_⟩
  rintro ⟨b, off, e, hne, hlt, hcell⟩
  exact ⟨b, off, e, hne, hlt, hlt, hcell⟩
theorem results_tmp5 {fn : Func} {t u v x y : Tmp} (h : fn.results = #[.tmp t, .tmp u, .tmp v, .tmp x, .tmp y]) (tmps : Array Value) (P : Program) (w : World) :
    (results fn tmps).run P w = .ok (.tuple #[tmps.getD t undef, tmps.getD u undef, tmps.getD v undef, tmps.getD x undef, tmps.getD y undef]) w := by
  simp [results, h]
/-- A word that may be written, or none. -/
theorem enc_any (f : Int) (a : Option Addr) (xs : List Int) (cap : Nat) (a2 : Option Addr) (m : List Int) (cap2 : Nat) (w : World) (hn : xs.length ≤ 1048576) (hn2 : m.length ≤ 1048576) (hs : SrcC w a xs.length cap (lf xs)) (hs2 : SrcC w a2 m.length cap2 (lf m)) : Calls Tryd.prog 38 #[.int .i64 f, .slice a xs.length cap, .slice a2 m.length cap2] w fun e w' => ∃ a n c, e = .returned (.slice a n c) ∧ Below w.heap.size w w' ∧ (n = 0 ∨ n = xs.length ∧ ∃ F, w'.ownsRow w.heap.size 3 1 (.slice a n c) xs.length (xsF F xs.length)) := by
  by_cases h : EncOk f xs m
  · refine (enc_on f a xs cap a2 m cap2 w hn hn2 hs hs2 h).mono ?_
    rintro e w' ⟨v, rfl, ho, hb⟩
    rw [encL_len] at ho
    obtain ⟨a5, c5, rfl, _, _⟩ := src_of_owns2 ho
    exact ⟨a5, _, c5, rfl, hb, .inr ⟨rfl, _, ho⟩⟩
  · have := sEncodeWord f a xs cap a2 m cap2 w hn hn2 hs hs2
    rw [show mEncodeWord f xs m = [] by unfold mEncodeWord; rw [if_neg h]] at this
    refine this.mono ?_
    rintro e w' ⟨a, c, rfl, _, hb⟩
    exact ⟨a, _, c, rfl, hb, .inl rfl⟩
/-- The word that is bent, apart from the points and the message. -/
def WS (g S : Nat) (w W : World) (g2 n cap2 : Nat) (a3 : Option Addr) (l : List Int) (cap3 : Nat) (a7 : Option Addr) (m : List Int) (cap7 : Nat) : Prop := (∃ F : Nat → Int, OwnV W g2 n cap2 F) ∧ g2 ≠ g ∧ S ≤ g2 ∧ w.heap.size ≤ S ∧ XM S g W a3 l cap3 ∧ XM S g W a7 m cap7 ∧ Cur g W ∧ w.grownBy W (some g)
theorem WS.grown {g S : Nat} {w W W' : World} {g2 n cap2 : Nat} {a3 : Option Addr} {l : List Int} {cap3 : Nat} {a7 : Option Addr} {m : List Int} {cap7 : Nat} (h : WS g S w W g2 n cap2 a3 l cap3 a7 m cap7) (hg : W.grownBy W' (some g)) (hc : Cur g W') : WS g S w W' g2 n cap2 a3 l cap3 a7 m cap7 := by
  obtain ⟨⟨F, ho⟩, h1, h2, h3, h4, h5, _, h7⟩ := h
  exact ⟨⟨F, ho.grown hg h1⟩, h1, h2, h3, h4.grown hg, h5.grown hg, hc, h7.trans hg⟩
theorem WS.put {g S : Nat} {w W : World} {g2 n cap2 : Nat} {a3 : Option Addr} {l : List Int} {cap3 : Nat} {a7 : Option Addr} {m : List Int} {cap7 : Nat} (h : WS g S w W g2 n cap2 a3 l cap3 a7 m cap7) (hB : g < w.heap.size) (k : Nat) (y : Int) : WS g S w (W.setCell ⟨g2, k, none⟩ (.int .i64 y)) g2 n cap2 a3 l cap3 a7 m cap7 := by
  obtain ⟨⟨F, ho⟩, h1, h2, h3, h4, h5, h6, h7⟩ := h
  have hset : W.grownBy (W.setCell ⟨g2, k, none⟩ (.int .i64 y)) (some g2) := grown_set (World.grownBy.refl _ _) _ _
  exact ⟨⟨upd F k y, ho.set⟩, h1, h2, h3, h4.row hset (fun r hr => by injection hr with hr; omega), h5.row hset (fun r hr => by injection hr with hr; omega), h6.other hset (fun r hr => by injection hr with hr; omega), grown_new h7 hset (fun r hr => by injection hr with hr; omega)⟩
def DWd (g : Nat) (w : World) (e : Ending) (w' : World) : Prop := ∃ (f : Int) (a : Option Addr) (l : List Int) (cap : Nat) (y : Value) (k : Int) (a3 : Option Addr) (m : List Int) (cap3 : Nat), e = .returned (.tuple #[.int .i64 f, .slice a l.length cap, y, .int .i64 k, .slice a3 m.length cap3]) ∧ l.length ≤ 10 ∧ m.length ≤ 10 ∧ XM w'.heap.size g w' a l cap ∧ XM w'.heap.size g w' a3 m cap3 ∧ Cur g w' ∧ w.grownBy w' (some g)
set_option maxRecDepth 100000 in
set_option maxHeartbeats 3200000 in
theorem drawWord_c (g : Nat) (w : World) (hc : Cur g w) : Calls Tryd.prog 67 #[.pointer (some ⟨g, 0, none⟩)] w (DWd g w) := by
  have hB : g < w.heap.size := hc.lt
  go_enter Tryd.func67, Tryd.ntmps67
  go_wp2_with fail
  refine (field_c g w hc).mono ?_
  rintro e w1 ⟨f, _, rfl, g1, c1⟩
  go_wp2_with fail
  refine (below_c g 8 w1 c1 (by omega) (by omega)).mono ?_
  rintro e w2 ⟨t, ⟨t0, t1⟩, rfl, g2, c2⟩
  obtain ⟨t, rfl⟩ := Int.eq_ofNat_of_zero_le t0
  have en : (3 : Int) + (t : Int) = ((3 + t : Nat) : Int) := by omega
  obtain ⟨nn, hnn⟩ : ∃ nn, 3 + t = nn := ⟨_, rfl⟩
  have hn1 : 1 ≤ nn := by omega
  have hn2 : nn ≤ 10 := by omega
  rw [hnn] at en
  have HEN := Lib.hid en
  clear en hnn
  have g12 := g1.trans g2
  clear g1 g2 c1 hc
  go_wp2_with fail
  rw [HEN.out]
  refine (drawPoints_c g f nn w2 c2 (by omega) (by omega)).mono ?_
  rintro e w3 ⟨m3, h31, h32, l, a3, cap3, rfl, hl3, s3, c3, g3⟩
  have hl1 : 1 ≤ l.length := by omega
  have hl2 : l.length ≤ 10 := by omega
  have HX3 := Lib.hid (XM.of s3)
  have g13 := g12.trans g3
  clear s3 g12 g3 c2 hl3 h31 h32 HEN t0 t1
  go_wp2_with fail
  refine (below_c g l.length w3 c3 (by omega) (by omega)).mono ?_
  rintro e w4 ⟨x, ⟨x0, x1⟩, rfl, g4, c4⟩
  obtain ⟨x, rfl⟩ := Int.eq_ofNat_of_zero_le x0
  have HX4 := Lib.hid (HX3.out.grown g4)
  have g14 := g13.trans g4
  clear HX3 g13 c3 x0
  go_wp2_with fail
  refine (once_c g 2 w4 c4 (by omega) (by omega)).mono ?_
  rintro e w5 ⟨b5, rfl, g5, c5⟩
  have hsz4 := Nat.le_trans g4.size g5.size
  have HX5 := Lib.hid ((HX4.out.grown g5).mono hsz4)
  have g15 := g14.trans g5
  clear HX4 g14 c4 g4 g5 hsz4
  go_upto_if 28 with fail
  go_cut [9] from 28 (fun s wd => ∃ k : Nat, s = .int .i64 k ∧ 1 ≤ k ∧ k ≤ l.length ∧ Hid (XM wd.heap.size g wd a3 l cap3) ∧ Cur g wd ∧ w.grownBy wd (some g))
  case first =>
    cases b5
    · go_wp2
      go_meet
      case rel => exact ⟨x + 1, vint (by omega), by omega, by omega, HX5, c5, g15⟩
    · have hq : ((l.length : Int) + 1).tdiv 2 = (((l.length + 1) / 2 : Nat) : Int) := by rw [Int.tdiv_eq_ediv_of_nonneg (by omega)]; omega
      have HQ := Lib.hid hq
      clear hq
      go_wp2_with fail
      refine (below_c g _ w5 c5 ?n0 ?n1).mono ?_
      case n0 => first | omega | (rw [HQ.out]; omega)
      case n1 => first | omega | (rw [HQ.out]; omega)
      rintro e w6 ⟨y, ⟨y0, y1⟩, rfl, g6, c6⟩
      have y2 : y < (((l.length + 1) / 2 : Nat) : Int) := by first | omega | (rw [← HQ.out]; exact y1)
      obtain ⟨y, rfl⟩ := Int.eq_ofNat_of_zero_le y0
      have HX6 := Lib.hid ((HX5.out.grown g6).mono g6.size)
      have g16 := g15.trans g6
      have y3 : y < (l.length + 1) / 2 := by omega
      clear HX5 g15 c5 g6 y0 y1 y2
      go_wp2
      go_meet
      case rel => exact ⟨y + 1, vint (by omega), by omega, by omega, HX6, c6, g16⟩
  case rest =>
    obtain ⟨k, rfl, k1, k2, HX6, c6, g16⟩ := hcut
    clear HX5 g15 c5 x1
    generalize wc = W6 at *
    go_wp2_with fail
    refine (drawList_c g f k W6 c6 (by omega)).mono ?_
    rintro e w7 ⟨v7, rfl, ⟨F7, ho7⟩, c7, g7, hs7⟩
    obtain ⟨a7, cap7, rfl, hx7⟩ := XM.ofRow ho7 c6.lt
    have hmk : (tab k F7).length = k := tab_len _ _
    generalize tab k F7 = m at *
    have HMK := Lib.hid hmk
    clear hmk
    have HM7 := Lib.hid hx7
    have HX7 := Lib.hid ((HX6.out.grown g7).mono g7.size)
    have g17 := g16.trans g7
    clear ho7 hx7 HX6 c6 g7 g16 hs7
    go_wp2_with fail
    refine (enc_any f a3 l cap3 a7 m cap7 w7 (by omega) (by rw [HMK.out]; omega) HX7.out.src HM7.out.src).mono ?_
    rintro e w8 ⟨a8, n8, cap8, rfl, b8, hy8⟩
    have HY8 := Lib.hid hy8
    have HB8 := Lib.hid b8
    have HC7 := Lib.hid c7
    have HG7 := Lib.hid g17
    clear hy8 b8 c7 g17
    go_upto_if 46 with fail
    go_cut [11] from 46 (fun s wd => ∃ g2 cap2 : Nat, s = .slice (some ⟨g2, 0, none⟩) l.length cap2 ∧ Hid (WS g w7.heap.size w wd g2 l.length cap2 a3 l cap3 a7 m cap7))
    case first =>
      have HX8 := Lib.hid (HX7.out.grown (grown_of_below g HB8.out))
      have HM8 := Lib.hid (HM7.out.grown (grown_of_below g HB8.out))
      have c8 := HC7.out.below HB8.out
      have g18 := HG7.out.trans (grown_of_below g HB8.out)
      have hsz8 := HB8.out.size
      have hsw := HG7.out.size
      have hgw := HC7.out.lt
      by_cases hny : n8 = 0
      · subst hny
        go_wp2_with fail
        refine (drawList_c g f l.length w8 c8 (by omega)).mono ?_
        rintro e w9 ⟨v9, rfl, ⟨F9, ho9⟩, c9, g9, hs9⟩
        obtain ⟨g2, cap2, rfl, hg2, hov⟩ := OwnV.of_owns ho9 (by omega)
        have HR : Hid (WS g w7.heap.size w w9 g2 l.length cap2 a3 l cap3 a7 m cap7) := Lib.hid ⟨⟨F9, hov⟩, by omega, by omega, by omega, HX8.out.grown g9, HM8.out.grown g9, c9, g18.trans g9⟩
        clear ho9 hov g9 g18 HX8 HM8
        go_wp2
        go_meet
        case rel => exact ⟨g2, cap2, rfl, HR⟩
      · have hz8 : ((n8 : Int) == 0) = false := by rw [beq_eq_false_iff_ne]; omega
        obtain ⟨hn8, F8, ho8⟩ : n8 = l.length ∧ ∃ F, w8.ownsRow w7.heap.size 3 1 (.slice a8 n8 cap8) l.length (xsF F l.length) := by
          rcases HY8.out with h | h
          · exact absurd h hny
          · exact h
        obtain ⟨g2, cap2, hv, hg2, hov⟩ := OwnV.of_owns ho8 (by omega)
        injection hv with e1 e2 e3
        subst e1
        have HR : Hid (WS g w7.heap.size w w8 g2 l.length cap2 a3 l cap3 a7 m cap7) := Lib.hid ⟨⟨F8, hov⟩, by omega, hg2, hsw, HX8.out, HM8.out, c8, g18⟩
        clear ho8 hov g18 HX8 HM8 HY8
        subst e3
        go_wp2
        go_meet
        case rel => exact ⟨g2, _, by rw [hn8], HR⟩
    case rest =>
      obtain ⟨g2, cap2, rfl, HW⟩ := hcut
      clear HY8 HB8 HC7 HG7 HX7 HM7
      generalize wc = W8 at *
      have hq : ((l.length : Int) - k).tdiv 2 = (((l.length - k) / 2 : Nat) : Int) := by rw [Int.tdiv_eq_ediv_of_nonneg (by omega)]; omega
      have HQ := Lib.hid hq
      have c8 : Cur g W8 := HW.out.2.2.2.2.2.2.1
      clear hq
      go_wp2_with fail
      refine (below_c g _ W8 c8 ?n0 ?n1).mono ?_
      case n0 => first | omega | (rw [HQ.out]; omega)
      case n1 => first | omega | (rw [HQ.out]; omega)
      rintro e w9 ⟨bd, ⟨bd0, bd1⟩, rfl, g9, c9⟩
      have bd2 : bd ≤ 20 := by first | omega | (rw [HQ.out] at bd1; omega)
      obtain ⟨bd, rfl⟩ := Int.eq_ofNat_of_zero_le bd0
      have HW9 := Lib.hid (HW.out.grown g9 c9)
      clear HW c8 g9 bd0 bd1
      go_wp2_with fail
      refine (once_c g 5 w9 c9 (by omega) (by omega)).mono ?_
      rintro e w10 ⟨b10, rfl, g10, c10⟩
      have HW10 := Lib.hid (HW9.out.grown g10 c10)
      clear HW9 g10 c9
      go_upto_if 61 with fail
      go_cut [12] from 61 (fun s wd => ∃ bd : Nat, s = .int .i64 bd ∧ bd ≤ 20 ∧ Hid (WS g w7.heap.size w wd g2 l.length cap2 a3 l cap3 a7 m cap7))
      case first =>
        cases b10
        · go_wp2
          go_meet
          case rel => exact ⟨bd, rfl, by omega, HW10⟩
        · go_wp2_with fail
          refine (below_c g _ w10 c10 (by omega) (by omega)).mono ?_
          rintro e w11 ⟨be, ⟨be0, be1⟩, rfl, g11, c11⟩
          obtain ⟨be, rfl⟩ := Int.eq_ofNat_of_zero_le be0
          have HW11 := Lib.hid (HW10.out.grown g11 c11)
          clear HW10 g11 c10
          go_wp2
          go_meet
          case rel => exact ⟨be, rfl, by omega, HW11⟩
      case rest =>
        clear HW10 c10 bd2
        obtain ⟨be, rfl, hbe, HW⟩ := hcut
        generalize wc = W10 at *
        go_wp2_with fail
        go_loopw [13] (fun iv wr => ∃ i : Nat, iv = .int .i64 i ∧ i ≤ be ∧ Hid (WS g w7.heap.size w wr g2 l.length cap2 a3 l cap3 a7 m cap7)) (fun iv _ => be - (intOf iv).toNat)
        case atStart => exact ⟨0, rfl, Nat.zero_le _, HW⟩
        case round =>
          clear HW
          obtain ⟨i, rfl, hi, HW⟩ := hrel
          by_cases h1 : i < be
          · have hd1 : decide ((i : Int) < be) = true := decide_eq_true (by omega)
            have cw : Cur g wr := HW.out.2.2.2.2.2.2.1
            go_wp2_with fail
            refine (below_c g l.length wr cw (by omega) (by omega)).mono ?_
            rintro e w11 ⟨t, ⟨t0, t1⟩, rfl, g11, c11⟩
            obtain ⟨t, rfl⟩ := Int.eq_ofNat_of_zero_le t0
            have HW11 := Lib.hid (HW.out.grown g11 c11)
            clear HW g11 cw
            go_wp2_with fail
            refine (element_c g f w11 c11).mono ?_
            rintro e w12 ⟨y, _, rfl, g12, c12⟩
            have HW12 := Lib.hid (HW11.out.grown g12 c12)
            have HWP := Lib.hid (HW12.out.put hB t y)
            obtain ⟨F4, ho4⟩ := HW12.out.1
            have cc := ho4.cell (show t < l.length by omega)
            have fr := ho4.frozen t
            have tn : (t : Int) < (l.length : Int) := t1
            clear HW11 HW12 g12 c11 ho4
            go_wp2
            go_roundw
            case rel => exact ⟨i + 1, by go_num, by omega, HWP⟩
            case measure => simp [intOf]; omega
          · have hd1 : decide ((i : Int) < be) = false := decide_eq_false (by omega)
            have hR := HW.out
            have hsz : w7.heap.size ≤ wr.heap.size := by
              obtain ⟨⟨F, ho⟩, _, h2, _⟩ := hR
              have := ho.lt
              omega
            have HE : Hid (DWd g w (.returned (.tuple #[.int .i64 f, .slice a3 l.length cap3, .slice (some ⟨g2, 0, none⟩) l.length cap2, .int .i64 k, .slice a7 m.length cap7])) wr) := Lib.hid ⟨f, a3, l, cap3, _, k, a7, m, cap7, rfl, hl2, by rw [HMK.out]; omega, hR.2.2.2.2.1.mono hsz, hR.2.2.2.2.2.1.mono hsz, hR.2.2.2.2.2.2.1, hR.2.2.2.2.2.2.2⟩
            clear hR HW
            go_wp2
            (try simp only [Exit.inBlock, Exit.then])
            refine bodyPost_ret (results_tmp5 rfl _ _ _) rfl ?_
            exact HE.out
end Go.Proofs.YtangofjpnhhfeabDoor
