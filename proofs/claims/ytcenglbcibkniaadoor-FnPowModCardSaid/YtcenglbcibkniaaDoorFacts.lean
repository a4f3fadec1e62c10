/-
  Closed facts on the program, each reckoned once by the kernel: every row of the seat asks them. The words of the translation's head are taken off the list of its signs, so that the kernel reads no long text.
-/
import Derived.Test.YtcenglbcibkniaaDoorCards
import Derived.JoinedOf
import Derived.KernelRfl
namespace Go.Proofs.YtcenglbcibkniaaDoor
set_option maxRecDepth 100000
theorem both {a b : Bool} (h : a = true) (k : b = true) : (a && b) = true := by rw [h, k]; rfl
theorem f_laidOut : laidOutB Tryd.prog = true := by kernel_rfl
theorem f_mapsRowed : mapsRowed Tryd.prog = true := by kernel_rfl
theorem f_stops : (Tryd.prog.stops == []) = true := by kernel_rfl
theorem f_knobs : (Tryd.prog.stopKnobs == []) = true := by kernel_rfl
theorem f_keys : (Rows.fnDivBackRow.plainKeys == Tryd.prog.plainKeys) = true := by kernel_rfl
theorem f_heard : Tryd.prog.stopsHeard = true := by kernel_rfl
theorem f_looks : false = Tryd.prog.looks [] := by kernel_rfl
def headSigns : List Char := [Char.ofNat 104, Char.ofNat 97, Char.ofNat 114, Char.ofNat 110, Char.ofNat 101, Char.ofNat 115, Char.ofNat 115, Char.ofNat 32, Char.ofNat 57, Char.ofNat 98, Char.ofNat 98, Char.ofNat 54, Char.ofNat 49, Char.ofNat 50, Char.ofNat 57, Char.ofNat 100, Char.ofNat 51, Char.ofNat 100, Char.ofNat 97, Char.ofNat 56, Char.ofNat 49, Char.ofNat 57, Char.ofNat 102, Char.ofNat 102, Char.ofNat 101, Char.ofNat 97, Char.ofNat 54, Char.ofNat 55, Char.ofNat 98, Char.ofNat 101, Char.ofNat 101, Char.ofNat 48, Char.ofNat 48, Char.ofNat 50, Char.ofNat 48, Char.ofNat 56, Char.ofNat 51, Char.ofNat 56, Char.ofNat 50, Char.ofNat 50, Char.ofNat 101, Char.ofNat 57, Char.ofNat 53, Char.ofNat 54, Char.ofNat 53, Char.ofNat 50, Char.ofNat 48, Char.ofNat 50, Char.ofNat 49, Char.ofNat 101, Char.ofNat 53, Char.ofNat 50, Char.ofNat 97, Char.ofNat 52, Char.ofNat 56, Char.ofNat 101, Char.ofNat 55, Char.ofNat 98, Char.ofNat 51, Char.ofNat 102, Char.ofNat 55, Char.ofNat 100, Char.ofNat 51, Char.ofNat 102, Char.ofNat 52, Char.ofNat 99, Char.ofNat 99, Char.ofNat 99, Char.ofNat 52, Char.ofNat 51, Char.ofNat 56, Char.ofNat 101, Char.ofNat 32, Char.ofNat 99, Char.ofNat 117, Char.ofNat 116, Char.ofNat 32, Char.ofNat 97, Char.ofNat 116, Char.ofNat 32, Char.ofNat 108, Char.ofNat 111, Char.ofNat 111, Char.ofNat 112, Char.ofNat 46, Char.ofNat 101, Char.ofNat 120, Char.ofNat 97, Char.ofNat 109, Char.ofNat 112, Char.ofNat 108, Char.ofNat 101, Char.ofNat 47, Char.ofNat 103, Char.ofNat 48, Char.ofNat 48, Char.ofNat 55, Char.ofNat 49, Char.ofNat 48, Char.ofNat 47, Char.ofNat 108, Char.ofNat 97, Char.ofNat 119, Char.ofNat 115, Char.ofNat 46, Char.ofNat 70, Char.ofNat 110, Char.ofNat 68, Char.ofNat 105, Char.ofNat 118, Char.ofNat 66, Char.ofNat 97, Char.ofNat 99, Char.ofNat 107, Char.ofNat 32, Char.ofNat 108, Char.ofNat 111, Char.ofNat 111, Char.ofNat 112, Char.ofNat 46, Char.ofNat 101, Char.ofNat 120, Char.ofNat 97, Char.ofNat 109, Char.ofNat 112, Char.ofNat 108, Char.ofNat 101, Char.ofNat 47, Char.ofNat 103, Char.ofNat 48, Char.ofNat 48, Char.ofNat 55, Char.ofNat 49, Char.ofNat 48, Char.ofNat 47, Char.ofNat 108, Char.ofNat 97, Char.ofNat 119, Char.ofNat 115, Char.ofNat 46, Char.ofNat 70, Char.ofNat 110, Char.ofNat 71, Char.ofNat 99, Char.ofNat 100, Char.ofNat 32, Char.ofNat 108, Char.ofNat 111, Char.ofNat 111, Char.ofNat 112, Char.ofNat 46, Char.ofNat 101, Char.ofNat 120, Char.ofNat 97, Char.ofNat 109, Char.ofNat 112, Char.ofNat 108, Char.ofNat 101, Char.ofNat 47, Char.ofNat 103, Char.ofNat 48, Char.ofNat 48, Char.ofNat 55, Char.ofNat 49, Char.ofNat 48, Char.ofNat 47, Char.ofNat 108, Char.ofNat 97, Char.ofNat 119, Char.ofNat 115, Char.ofNat 46, Char.ofNat 70, Char.ofNat 110, Char.ofNat 69, Char.ofNat 118, Char.ofNat 97, Char.ofNat 108, Char.ofNat 80, Char.ofNat 114, Char.ofNat 111, Char.ofNat 100, Char.ofNat 117, Char.ofNat 99, Char.ofNat 116, Char.ofNat 32, Char.ofNat 108, Char.ofNat 111, Char.ofNat 111, Char.ofNat 112, Char.ofNat 46, Char.ofNat 101, Char.ofNat 120, Char.ofNat 97, Char.ofNat 109, Char.ofNat 112, Char.ofNat 108, Char.ofNat 101, Char.ofNat 47, Char.ofNat 103, Char.ofNat 48, Char.ofNat 48, Char.ofNat 55, Char.ofNat 49, Char.ofNat 48, Char.ofNat 47, Char.ofNat 108, Char.ofNat 97, Char.ofNat 119, Char.ofNat 115, Char.ofNat 46, Char.ofNat 70, Char.ofNat 110, Char.ofNat 80, Char.ofNat 111, Char.ofNat 119, Char.ofNat 77, Char.ofNat 111, Char.ofNat 100]
theorem init_is : Tryd.prog.initOrder = String.ofList headSigns := by kernel_rfl
theorem init_list : Tryd.prog.initOrder.toList = headSigns := by rw [init_is]; exact String.toList_ofList
theorem ws_word (a : List Char) (h : ∀ c, c ∈ a → c ≠ Char.ofNat 32) (r : List Char) : wordsSigns (a ++ Char.ofNat 32 :: r) = a :: wordsSigns r := by
  induction a with
  | nil => rfl
  | cons c a ih =>
    have hc : c ≠ Char.ofNat 32 := h c List.mem_cons_self
    have ih' := ih (fun c hc => h c (List.mem_cons_of_mem _ hc))
    show wordsSigns (c :: (a ++ Char.ofNat 32 :: r)) = (c :: a) :: wordsSigns r
    generalize wordsSigns r = t at *
    rw [wordsSigns, ih']
    intro e; exact hc e
def headA : List Char := headSigns.take 7
def headB : List Char := (headSigns.drop 8).take 64
def headC : List Char := (headSigns.drop 73).take 3
def headRest : List Char := headSigns.drop 77
theorem head_split : headSigns = headA ++ Char.ofNat 32 :: (headB ++ Char.ofNat 32 :: (headC ++ Char.ofNat 32 :: headRest)) := by kernel_rfl
theorem head_words : wordsSigns Tryd.prog.initOrder.toList = headA :: headB :: headC :: wordsSigns headRest := by
  rw [init_list, head_split, ws_word _ (by decide +kernel), ws_word _ (by decide +kernel), ws_word _ (by decide +kernel)]
theorem sum_is : "9bb6129d3da819ffea67bee002083822e95652021e52a48e7b3f7d3f4ccc438e" = String.ofList headB := by kernel_rfl
theorem sum_list : "9bb6129d3da819ffea67bee002083822e95652021e52a48e7b3f7d3f4ccc438e".toList = headB := by rw [sum_is]; exact String.toList_ofList
theorem behind_of (R : List (List Char)) : behindMainWord (headA :: headB :: headC :: R) = headC :: R := by kernel_rfl
theorem strip_of (R : List (List Char)) : stripLifts liftWords (headC :: R) = ([], headC :: R) := by kernel_rfl
section
variable {P : Program} {R : List (List Char)} (hw : wordsSigns P.initOrder.toList = headA :: headB :: headC :: R)
include hw
theorem main_gen : P.mainIs = some (true, headB) := by
  unfold Program.mainIs
  rw [hw]
  kernel_rfl
theorem lifts_gen : P.headLifts = [] := by
  unfold Program.headLifts
  rw [hw, behind_of, strip_of]
  kernel_rfl
theorem final_gen : P.liftsFinal = false := by
  unfold Program.liftsFinal
  rw [lifts_gen hw, hw, behind_of]
  kernel_rfl
theorem make_gen : P.make = some .cut := by
  unfold Program.make
  rw [lifts_gen hw, hw, behind_of]
  kernel_rfl
theorem enter_gen (hl : P.laysLater = false) (hr : P.bearsReflect = false) (hd : P.doorFits [] = true) : P.mayEnter = true := by
  unfold Program.mayEnter
  rw [hw, behind_of]
  dsimp only
  rw [strip_of, hl, hr]
  dsimp only
  rw [hd]
  kernel_rfl
end
theorem f_main : Tryd.prog.mainIs = some (true, "9bb6129d3da819ffea67bee002083822e95652021e52a48e7b3f7d3f4ccc438e".toList) := (main_gen head_words).trans (congrArg (fun l => some (true, l)) sum_list.symm)
theorem f_lays : Tryd.prog.laysLater = false := by kernel_rfl
theorem f_refl : Tryd.prog.bearsReflect = false := by kernel_rfl
theorem f_door : Tryd.prog.doorFits [] = true := by kernel_rfl
theorem f_enter : Tryd.prog.mayEnter = true := enter_gen head_words f_lays f_refl f_door
theorem f_lifts : (Rows.fnDivBackRow.lifted == Tryd.prog.liftsFinal) = true := by
  rw [final_gen head_words]
  kernel_rfl
theorem f_make : (Tryd.prog.make == some Rows.fnDivBackRow.make) = true := by
  rw [make_gen head_words]
  kernel_rfl
end Go.Proofs.YtcenglbcibkniaaDoor
