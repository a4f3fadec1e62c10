/-
  Closed facts on the program, each reckoned once by the kernel: every row of the seat asks them.
-/
import Derived.Test.YtpbncphbcnjlgaaDoorCards
import Derived.JoinedOf
import Derived.KernelRfl
namespace Go.Proofs.YtpbncphbcnjlgaaDoor
theorem facts_all {P : Program} {f : FuncId} {fn : Func} {s : ChangeSpec} {c : OpenClaim} (h0 : (c.wf (OpenSpec.ofChange s) : Bool) = true) (h1 : (laidOutB P : Bool) = true) (h2 : (mapsRowed P : Bool) = true) (h3 : (fn.params.all (P.readableRec ·) : Bool) = true) (h4 : (namedTie P c.named s.vars : Bool) = true) (h5 : ((c.stops == []) : Bool) = true) (h6 : ((P.stops == []) : Bool) = true) (h7 : ((c.knobs == []) : Bool) = true) (h8 : ((P.stopKnobs == []) : Bool) = true) (h9 : ((c.inPlace == P.inPlace f) : Bool) = true) (h10 : ((c.unfollowed == P.unfollowed f) : Bool) = true) (h11 : ((c.recurses == P.recurses f) : Bool) = true) (h12 : ((c.named == P.varsNamed f) : Bool) = true) (h13 : ((c.maps == (fn.params.toList ++ s.plain.varTypes P).any (P.mapsRec ·)) : Bool) = true) (h14 : ((c.ifaces == (fn.params.toList ++ s.plain.varTypes P).any (P.ifacesRec ·)) : Bool) = true) (h15 : ((c.mapsOut == P.mapsAmong fn.resultTypes.toList) : Bool) = true) (h16 : ((c.loops == (fn.params.toList ++ s.plain.varTypes P).any (P.loopsFrom ·)) : Bool) = true) (h17 : ((c.wideKeys == (fn.params.toList ++ s.plain.varTypes P ++ fn.resultTypes.toList).any (P.wideKeysFrom ·)) : Bool) = true) (h18 : (s.vars.all (P.varReadable ·) : Bool) = true) (h19 : (fn.resultTypes.all (fun t => P.readableRec t && decide (t < P.types.size)) : Bool) = true) (h20 : ((c.ifacesOut == fn.resultTypes.toList.any (P.ifacesRec ·)) : Bool) = true) (h21 : ((c.loopsOut == fn.resultTypes.toList.any (P.loopsFrom ·)) : Bool) = true) (h22 : ((c.plainKeys == P.plainKeys) : Bool) = true) (h23 : (c.shortTexts.isNone : Bool) = true) (h24 : (P.stopsHeard : Bool) = true) (h25 : (P.mayEnter : Bool) = true) (h26 : ((c.lifted == P.liftsFinal) : Bool) = true) (h27 : ((P.make == some c.make) : Bool) = true) (h28 : ((c.kinds == (if c.domain.isEmpty then [] else fn.params.toList.map fun t => match P.underlying t with | some (.int k) => some k | _ => none)) : Bool) = true) (h29 : ((c.pinned == c.pinnedBy) : Bool) = true) (h30 : ((c.veiled == (fn.params.toList ++ s.plain.varTypes P ++ fn.resultTypes.toList).any (P.veiledRec ·)) : Bool) = true) (h31 : (c.veiledFits P fn.params.toList (fn.params.toList ++ s.plain.varTypes P ++ fn.resultTypes.toList) : Bool) = true) : joinedFacts P f fn s c = true := by
  unfold joinedFacts
  simp only [Bool.and_eq_true]
  exact ⟨⟨⟨⟨⟨⟨⟨⟨⟨⟨⟨⟨⟨⟨⟨⟨⟨⟨⟨⟨⟨⟨⟨⟨⟨⟨⟨⟨⟨⟨⟨h0, h1⟩, h2⟩, h3⟩, h4⟩, h5⟩, h6⟩, h7⟩, h8⟩, h9⟩, h10⟩, h11⟩, h12⟩, h13⟩, h14⟩, h15⟩, h16⟩, h17⟩, h18⟩, h19⟩, h20⟩, h21⟩, h22⟩, h23⟩, h24⟩, h25⟩, h26⟩, h27⟩, h28⟩, h29⟩, h30⟩, h31⟩
theorem f_laidOut : laidOutB Tryd.prog = true := by kernel_rfl
theorem f_mapsRowed : mapsRowed Tryd.prog = true := by kernel_rfl
theorem f_stops : (Tryd.prog.stops == []) = true := by kernel_rfl
theorem f_knobs : (Tryd.prog.stopKnobs == []) = true := by kernel_rfl
theorem f_keys : (Rows.fnExactModulusRow.plainKeys == Tryd.prog.plainKeys) = true := by kernel_rfl
theorem f_heard : Tryd.prog.stopsHeard = true := by kernel_rfl
theorem f_enter : Tryd.prog.mayEnter = true := by kernel_rfl
theorem f_lifts : (Rows.fnExactModulusRow.lifted == Tryd.prog.liftsFinal) = true := by kernel_rfl
theorem f_make : (Tryd.prog.make == some Rows.fnExactModulusRow.make) = true := by kernel_rfl
theorem f_main : Tryd.prog.mainIs = some (true, "2d1235b4a1a5739297a2877a855dcdaa5897e9078952281e5b674148044b9491".toList) := by kernel_rfl
theorem f_looks : false = Tryd.prog.looks [] := by kernel_rfl
end Go.Proofs.YtpbncphbcnjlgaaDoor
