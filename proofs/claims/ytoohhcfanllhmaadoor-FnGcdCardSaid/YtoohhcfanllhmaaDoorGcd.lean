/-
  GcdPoly divides both polynomials, its last coefficient is 1, and that of both products with a linear polynomial is the product with it, for every code that the law draws from; no condition but the card's own (the table of fields holds what its initialiser lays).
-/
import Derived.Test.YtoohhcfanllhmaaDoorJ3
import Derived.ChangeOld
import Derived.Below
import Derived.Carry
namespace Go.Proofs.YtoohhcfanllhmaaDoor
open Go.ChangeShapes Go.WideShapes Go.ChangeAt Go.RowKit
namespace Gcd
set_option maxRecDepth 100000 in
set_option maxHeartbeats 1600000 in
theorem walk (a0 : Option Addr) (len0 cap0 : Nat) (z0 : List Int) (w : World) (hrow : IsRow .u8 w a0 len0 cap0 z0) (ht : Tab w) : Calls Tryd.prog 4 #[.slice a0 len0 cap0] w fun e w' => e = .returned (.bool true) ∧ Below w.heap.size w w' := by
  by_cases hl : 1048576 < len0
  · go_enter Tryd.func4, Tryd.ntmps4
    go_wp2_with fail
    refine (big_yes a0 len0 cap0 w hl).mono ?_
    rintro e w' ⟨rfl, rfl⟩
    go_wp2
    go_ret
    exact ⟨rfl, Below.refl _ _⟩
  have hl2 : len0 ≤ 1048576 := by omega
  have hcode := code_of_row hrow (by omega)
  clear hl hrow
  go_enter Tryd.func4, Tryd.ntmps4
  go_wp2_with fail
  refine (big_no a0 len0 cap0 w hl2).mono ?_
  rintro e w' ⟨rfl, rfl⟩
  go_wp2_with fail
  refine (drawGcdPoly_c a0 len0 cap0 w hl2 hcode).mono ?_
  rintro e w1 ⟨f, a, l, cap, a2, m, cap2, rfl, hln, hmn, hs, hs2, b1⟩
  have HCODE := Lib.hid (hcode.keep b1)
  clear hcode
  have ht1 := ht.below b1
  have R1 := sPolyOk f a l cap w1 hln hs
  by_cases k1 : PolOk f l
  rotate_left
  · rw [pok_not.2 k1] at R1
    have HR := Lib.hid R1
    clear k1 hs hs2 R1
    go_wp2_with fail
    refine HR.out.mono ?_
    rintro e w' ⟨rfl, rfl⟩
    go_wp2
    go_ret
    exact ⟨rfl, b1⟩
  have R2 := sPolyOk f a2 m cap2 w1 hmn hs2
  by_cases k2 : PolOk f m
  rotate_left
  · rw [pok_iff.2 k1] at R1
    rw [pok_not.2 k2] at R2
    have HR := Lib.hid R1
    have HR2 := Lib.hid R2
    clear k1 k2 hs hs2 R1 R2
    go_wp2_with fail
    refine HR.out.mono ?_
    rintro e w' ⟨rfl, rfl⟩
    go_wp2_with fail
    refine HR2.out.mono ?_
    rintro e w' ⟨rfl, rfl⟩
    go_wp2
    go_ret
    exact ⟨rfl, b1⟩
  rw [pok_iff.2 k1] at R1
  rw [pok_iff.2 k2] at R2
  have HR1 := Lib.hid R1
  have HR2 := Lib.hid R2
  have HS := Lib.hid hs
  have HS2 := Lib.hid hs2
  clear R1 R2 hs hs2
  by_cases hz : l.length + m.length = 0
  · have hz1 : l.length = 0 := by omega
    have hz2 : m.length = 0 := by omega
    rw [hz1] at HR1
    rw [hz2] at HR2
    clear k1 k2 hz
    go_wp2_with fail
    refine HR1.out.mono ?_
    rintro e w' ⟨rfl, rfl⟩
    go_wp2_with fail
    refine HR2.out.mono ?_
    rintro e w' ⟨rfl, rfl⟩
    go_wp2
    go_ret
    exact ⟨rfl, b1⟩
  have hzb : ((l.length : Int) + m.length == 0) = false := by
    rw [beq_eq_false_iff_ne]
    omega
  obtain ⟨gk, gz, gt, gle⟩ := pok_gcd k1 k2 hz
  obtain ⟨r1, r2, r3, r4⟩ := gcd_rem k1 k2 hz
  obtain ⟨h0, h8⟩ := k1.1
  have hp := P_bd h0 h8
  have ng : (gcdM f l m).length ≤ 1048576 := by omega
  have HG : Hid (mGcdPoly f l m = gcdM f l m) := Lib.hid (by unfold mGcdPoly; rw [if_pos ⟨k1, k2⟩])
  have HP : Hid (∀ d : List Int, Pol f d → d.length = 2 → lf d 1 = 1 → okMul f l d → okMul f m d → PolOk f (mulL f l d) ∧ PolOk f (mulL f m d) ∧ okMul f (gcdM f l m) d ∧ mGcdPoly f (mulL f l d) (mulL f m d) = mulL f (gcdM f l m) d) := Lib.hid fun d hd h2 h1 o1 o2 => gcd_prod k1 k2 hd hz h2 h1 o1 o2
  have HK1 := Lib.hid k1
  have HK2 := Lib.hid k2
  have HGK := Lib.hid gk
  have HR1' := Lib.hid r1
  have HR2' := Lib.hid r2
  have HR3' := Lib.hid r3
  have HR4' := Lib.hid r4
  obtain ⟨k, hk⟩ : ∃ k, (gcdM f l m).length = k + 1 := ⟨(gcdM f l m).length - 1, by omega⟩
  have HKK := Lib.hid hk
  have HGT : Hid (lf (gcdM f l m) k = 1) := Lib.hid (by rw [hk] at gt; exact gt)
  have hk4 : k + 1 ≤ 400 := by have := gk.2.1; omega
  clear k1 k2 gk gz gt r1 r2 r3 r4 hz hk
  go_wp2_with fail
  refine HR1.out.mono ?_
  rintro e w' ⟨rfl, rfl⟩
  go_wp2_with fail
  refine HR2.out.mono ?_
  rintro e w' ⟨rfl, rfl⟩
  go_wp2_with fail
  refine (cp_l a l cap w1 hln HS.out).mono ?_
  rintro e w2 ⟨a3, cap3, rfl, s3, b2⟩
  have HS3 := Lib.hid s3
  have c2 := below_step b1 b2
  have HL2 := Lib.hid (HS.out.keep b2)
  have HT2 := Lib.hid (HS2.out.keep b2)
  have HC2 := Lib.hid (HCODE.out.keep b2)
  clear s3 HS HS2 b1 b2 HCODE HR1 HR2 hzb
  go_wp2_with fail
  refine (cp_l a2 m cap2 w2 hmn HT2.out).mono ?_
  rintro e w3 ⟨a4, cap4, rfl, s4, b3⟩
  have HS4 := Lib.hid s4
  have c3 := below_step c2 b3
  have HS3b := Lib.hid (HS3.out.keep b3)
  have HL3 := Lib.hid (HL2.out.keep b3)
  have HT3 := Lib.hid (HT2.out.keep b3)
  have HC3 := Lib.hid (HC2.out.keep b3)
  clear s4 HS3 HL2 HT2 HC2 b3 c2
  go_wp2_with fail
  refine (iGcdPoly f a3 l cap3 a4 m cap4 w3 hln hmn HS3b.out HS4.out (ht.below c3)).mono ?_
  rw [HG.out]
  rintro e w4 ⟨a5, cap5, rfl, o5, b4⟩
  have HS5 := Lib.hid o5.src
  have hs5 := o5.src
  rw [HKK.out] at hs5
  obtain ⟨bg, offg, rfl, cg⟩ := src_top hs5
  rw [HGT.out] at cg
  have c4 := below_step c3 b4
  have HL4 := Lib.hid (HL3.out.keep b4)
  have HT4 := Lib.hid (HT3.out.keep b4)
  have HC4 := Lib.hid (HC3.out.keep b4)
  have ARG : Hid (Value.slice (some ⟨bg, offg, none⟩) (k + 1) cap5 = Value.slice (some ⟨bg, offg, none⟩) (gcdM f l m).length cap5) := Lib.hid (by rw [HKK.out])
  rw [HKK.out]
  clear o5 hs5 HS3b HS4 HL3 HT3 HC3 b4 c3
  go_wp2_with fail
  refine (cp_l a l cap w4 hln HL4.out).mono ?_
  rintro e w5 ⟨a6, cap6, rfl, s6, b5⟩
  have HS6 := Lib.hid s6
  have c5 := below_step c4 b5
  have HS5b := Lib.hid (HS5.out.keep b5)
  have HL5 := Lib.hid (HL4.out.keep b5)
  have HT5 := Lib.hid (HT4.out.keep b5)
  have HC5 := Lib.hid (HC4.out.keep b5)
  clear s6 HS5 HL4 HT4 HC4 b5 c4 cg
  go_wp2_with fail
  rw [ARG.out]
  refine (cp_l (some ⟨bg, offg, none⟩) (gcdM f l m) cap5 w5 ng HS5b.out).mono ?_
  rintro e w6 ⟨a7, cap7, rfl, s7, b6⟩
  have HS7 := Lib.hid s7
  have c6 := below_step c5 b6
  have HS6b := Lib.hid (HS6.out.keep b6)
  have HS5c := Lib.hid (HS5b.out.keep b6)
  have HL6 := Lib.hid (HL5.out.keep b6)
  have HT6 := Lib.hid (HT5.out.keep b6)
  have HC6 := Lib.hid (HC5.out.keep b6)
  clear s7 HS6 HS5b HL5 HT5 HC5 b6 c5
  go_wp2_with fail
  refine (iDivMod f a6 l cap6 a7 (gcdM f l m) cap7 w6 hln ng HS6b.out HS7.out (ht.below c6)).mono ?_
  rw [HR1'.out, HR2'.out]
  rintro e w7 ⟨a8, cap8, a9, cap9, B, rfl, o8, _, _, o9, b7⟩
  have c7 := below_step c6 b7
  have HS5d := Lib.hid (HS5c.out.keep b7)
  have HL7 := Lib.hid (HL6.out.keep b7)
  have HT7 := Lib.hid (HT6.out.keep b7)
  have HC7 := Lib.hid (HC6.out.keep b7)
  clear o8 o9 HS6b HS7 HS5c HL6 HT6 HC6 b7 c6
  go_wp2_with fail
  refine (cp_l a2 m cap2 w7 hmn HT7.out).mono ?_
  rintro e w8 ⟨a10, cap10, rfl, s10, b8⟩
  have HS10 := Lib.hid s10
  have c8 := below_step c7 b8
  have HS5e := Lib.hid (HS5d.out.keep b8)
  have HL8 := Lib.hid (HL7.out.keep b8)
  have HT8 := Lib.hid (HT7.out.keep b8)
  have HC8 := Lib.hid (HC7.out.keep b8)
  clear s10 HS5d HL7 HT7 HC7 b8 c7
  go_wp2_with fail
  refine (cp_l (some ⟨bg, offg, none⟩) (gcdM f l m) cap5 w8 ng HS5e.out).mono ?_
  rintro e w9 ⟨a11, cap11, rfl, s11, b9⟩
  have HS11 := Lib.hid s11
  have c9 := below_step c8 b9
  have HS10b := Lib.hid (HS10.out.keep b9)
  have HL9 := Lib.hid (HL8.out.keep b9)
  have HT9 := Lib.hid (HT8.out.keep b9)
  have HC9 := Lib.hid (HC8.out.keep b9)
  clear s11 HS10 HS5e HL8 HT8 HC8 b9 c8
  go_wp2_with fail
  refine (iDivMod f a10 m cap10 a11 (gcdM f l m) cap11 w9 hmn ng HS10b.out HS11.out (ht.below c9)).mono ?_
  rw [HR3'.out, HR4'.out]
  rintro e w10 ⟨a12, cap12, a13, cap13, B, rfl, o12, _, _, o13, b10⟩
  have c10 := below_step c9 b10
  have HL10 := Lib.hid (HL9.out.keep b10)
  have HT10 := Lib.hid (HT9.out.keep b10)
  have HC10 := Lib.hid (HC9.out.keep b10)
  clear o12 o13 HS10b HS11 HL9 HT9 HC9 b10 c9
  go_wp2_with fail
  refine (byteAt_c a0 len0 cap0 0 w10 hl2 (by omega) HC10.out).mono ?_
  rintro e w' ⟨x, rfl, x0, x1, rfl⟩
  go_wp2_with fail
  refine (sModulus f w10).mono ?_
  rintro e w' ⟨rfl, rfl⟩
  have em : x.tmod (P f) = x % P f := Int.tmod_eq_emod_of_nonneg x0
  have xb := Int.emod_nonneg x (show P f ≠ 0 by omega)
  have xc := Int.emod_lt_of_pos x (show 0 < P f by omega)
  have HD := Lib.hid (pol_two h0 h8 xb xc)
  have ez : (P f == 0) = false := by simp; omega
  go_wp2_with fail
  generalize x % P f = y at *
  have HSD : Hid (Src (w10.alloc (.cells #[.int .i64 y, .int .i64 1] 3)) (some ⟨w10.heap.size, 0, none⟩) ([y, 1] : List Int).length (lf [y, 1])) := Lib.hid (src_new2 w10 y 1)
  have bA : Below w10.heap.size w10 (w10.alloc (.cells #[.int .i64 y, .int .i64 1] 3)) := (Below.refl _ _).alloc (Nat.le_refl _) _
  have cA := below_step c10 bA
  have HLA := Lib.hid (HL10.out.keep bA)
  have HTA := Lib.hid (HT10.out.keep bA)
  generalize hWA : w10.alloc (.cells #[.int .i64 y, .int .i64 1] 3) = wA at *
  clear hWA em xb xc ez bA HL10 HT10 HC10 c10
  have HN2 : Hid (([y, 1] : List Int).length = 2) := Lib.hid rfl
  refine (sMulPoly f a l cap (some ⟨w10.heap.size, 0, none⟩) [y, 1] 2 wA hln (by simp) HLA.out HSD.out).mono ?_
  rintro e wB ⟨aB, capB, rfl, sB, bB⟩
  have HSB := Lib.hid sB
  have cB := below_step cA bB
  have HLB := Lib.hid (HLA.out.keep bB)
  have HTB := Lib.hid (HTA.out.keep bB)
  have HSDB := Lib.hid (HSD.out.keep bB)
  clear sB HSD HLA HTA bB cA
  go_wp2_with fail
  refine (sMulPoly f a2 m cap2 (some ⟨w10.heap.size, 0, none⟩) [y, 1] 2 wB hmn (by simp) HTB.out HSDB.out).mono ?_
  rintro e wC ⟨aC, capC, rfl, sC, bC⟩
  have HSC := Lib.hid sC
  have cC := below_step cB bC
  have HSBC := Lib.hid (HSB.out.keep bC)
  have HLC := Lib.hid (HLB.out.keep bC)
  have HTC := Lib.hid (HTB.out.keep bC)
  have HSDC := Lib.hid (HSDB.out.keep bC)
  clear sC HSB HLB HTB HSDB bC cB
  by_cases o1 : okMul f l [y, 1]
  rotate_left
  · have E1 := Lib.hid (mul_off o1)
    rw [E1.out.2]
    clear o1
    go_wp2
    go_ret
    exact ⟨rfl, cC⟩
  by_cases o2 : okMul f m [y, 1]
  rotate_left
  · have E1 := Lib.hid (mul_on o1)
    have E2 := Lib.hid (mul_off o2)
    rw [E1.out.2, E2.out.2]
    clear o1 o2
    go_wp2
    go_ret
    exact ⟨rfl, cC⟩
  have E1 := Lib.hid (mul_on o1)
  have E2 := Lib.hid (mul_on o2)
  obtain ⟨p1, p2, o3, hfin⟩ := HP.out [y, 1] HD.out rfl rfl o1 o2
  have E3 := Lib.hid (mul_on o3)
  have HFIN := Lib.hid hfin
  have n1 : (mulL f l [y, 1]).length ≤ 1048576 := by have := p1.2.1; omega
  have n2 : (mulL f m [y, 1]).length ≤ 1048576 := by have := p2.2.1; omega
  have n3 : (mulL f (gcdM f l m) [y, 1]).length ≤ 1048576 := by have := mulL_le f (gcdM f l m) [y, 1]; rw [HN2.out] at this; have := HGK.out.2.1; omega
  rw [E1.out.1] at HSBC
  rw [E2.out.1] at HSC
  rw [E1.out.1, E1.out.2, E2.out.1, E2.out.2]
  clear p1 p2 o1 o2 o3 hfin
  go_wp2_with fail
  refine (sGcdPoly f a l cap a2 m cap2 wC hln hmn HLC.out HTC.out).mono ?_
  rw [HG.out]
  rintro e wD ⟨aD, capD, rfl, sD, bD⟩
  have HSD := Lib.hid sD
  have cD := below_step cC bD
  have HSBD := Lib.hid (HSBC.out.keep bD)
  have HSCD := Lib.hid (HSC.out.keep bD)
  have HSDD := Lib.hid (HSDC.out.keep bD)
  clear sD HSBC HSC HSDC HLC HTC bD cC
  go_wp2_with fail
  refine (sMulPoly f aD (gcdM f l m) capD (some ⟨w10.heap.size, 0, none⟩) [y, 1] 2 wD ng (by simp) HSD.out HSDD.out).mono ?_
  rw [E3.out.1, E3.out.2]
  rintro e wE ⟨aE, capE, rfl, sE, bE⟩
  have HSE := Lib.hid sE
  have cE := below_step cD bE
  have HSBE := Lib.hid (HSBD.out.keep bE)
  have HSCE := Lib.hid (HSCD.out.keep bE)
  clear sE HSD HSDD HSBD HSCD bE cD
  go_wp2_with fail
  refine (iGcdPoly f aB (mulL f l [y, 1]) capB aC (mulL f m [y, 1]) capC wE n1 n2 HSBE.out HSCE.out (ht.below cE)).mono ?_
  rw [HFIN.out]
  rintro e wF ⟨aF, capF, rfl, oF, bF⟩
  have HSF := Lib.hid oF.src
  have cF := below_step cE bF
  have HSEF := Lib.hid (HSE.out.keep bF)
  clear oF HSE HSBE HSCE bF cE
  go_wp2_with fail
  refine (sameZ aF aE (mulL f (gcdM f l m) [y, 1]) capF capE wF n3 HSF.out HSEF.out).mono ?_
  rintro e wG ⟨rfl, bG⟩
  go_wp2
  go_ret
  exact ⟨rfl, below_step cF bG⟩
theorem contract (H : Type) (enc : TypeId × Value → H) (W : World) (base : Nat) (args : Array Value) (ds gs : List (DataW H)) (before : List MemPlace)
    (hval : ∀ (j : Nat) t v, Tryd.f4.params[j]? = some t → args[j]? = some v → Value.okWide Tryd.prog W .any base t v)
    (hW : DataW.Whole enc Tryd.prog Tryd.f4.params.toList Rows.fnGcdSpec.vars false W args.toList ds gs before) (hL : laidMetH Tryd.prog Rows.fnGcdRow.laid W) :
    Calls Tryd.prog 4 args W fun e W' => ∃ v, e = .returned v ∧ Rows.fnGcdSpec.post enc Tryd.prog Tryd.f4 false true false false W args v W' := by
  have hvar := table_var hL
  have hW' := hW
  obtain ⟨p, q, hA0, hV, rfl, hfz, hnd⟩ := hW
  have hA : DataW.TrodAll enc Tryd.prog W 0 (fun _ => true) true Tryd.f4.params.toList args.toList ds p := hA0
  rw [Tryd.params4] at hA hval
  obtain ⟨v0, vs0, d0, ds0, p0, q0, hargs, rfl, rfl, h0, r0⟩ := trodAll_cons hA
  obtain ⟨rfl, rfl, rfl⟩ := trodAll_nil r0
  obtain rfl : args = #[v0] := by cases args; simp_all
  obtain ⟨rfl, rfl⟩ := DataW.TrodVars.unique hV (tab_vars enc (fun _ => true) hvar)
  obtain ⟨a0, len0, cap0, rfl⟩ := okWide_slice Tryd.underlying22 (hval 0 22 v0 rfl rfl)
  have k0 := h0
  have lt0 : ∀ x ∈ p0, x.block < W.heap.size := by obtain ⟨m, hm⟩ := k0; exact DataW.trod_lt m _ _ _ hm
  obtain ⟨z0, w0⟩ : ∃ zs, IsRow .u8 W a0 len0 cap0 zs := by
    obtain ⟨fuel, hf⟩ := h0
    rcases open_ints Tryd.underlying22 Tryd.underlying5 (by kernel_rfl) hf with ⟨hcs, _⟩ | ⟨x, l, c, zs, hcs, _, hl, hm, hz, _, hcell, hwz⟩
    · simp [Value.cells] at hcs
      obtain ⟨rfl, rfl, rfl⟩ := hcs
      exact ⟨[], .inl ⟨rfl, rfl, rfl, rfl⟩⟩
    · simp [Value.cells] at hcs
      obtain ⟨rfl, rfl, rfl⟩ := hcs
      exact ⟨zs, .inr ⟨_, rfl, hl, hm, by simpa using hz, hcell, hwz⟩⟩
  clear hA0
  refine (walk a0 len0 cap0 z0 W w0 (tab_of hvar)).mono fun e W' ⟨he, bel⟩ => ?_
  subst he
  exact ⟨_, rfl, _, _, _, [], _, _, hW', trodAll_mk1 (shut_bool Tryd.underlying4 _), (trodAll_cons_mk (Below.trod f_laidOut (by kernel_rfl) (of_decide_eq_true (by kernel_rfl)) k0 bel lt0) trodAll_mk0), tab_vars enc _ (below_var bel hvar), bel.frame _, fun h => by cases h⟩
theorem laid_met (os : Os) : laidMet Tryd.prog Rows.fnGcdRow.laid ((laidWorld os).forCall (fun _ _ => 0) ⟨#[], #[.slice none 0 0], []⟩).memory :=
  laidMet_of_run' 8 (by kernel_rfl) (by kernel_rfl)
theorem reads (os : Os) {H : Type} (enc : TypeId × Value → H) : ∃ places, DataW.whole enc Tryd.prog ((laidWorld os).forCall (fun _ _ => 0) ⟨#[], #[.slice none 0 0], []⟩).memory Tryd.f4.params.toList Rows.fnGcdSpec.vars false #[Value.slice none 0 0].toList 8 = some ([.nil], [Rows.laid_loop_example_g00710_impl_fieldTable], places) :=
  ⟨MemPlace.row ⟨0, 0, none⟩ 27, by kernel_rfl⟩
set_option maxRecDepth 100000 in
theorem lifted (os : Os) (started : os.Started) (H : Type) (enc : TypeId × Value → H) (F : Stop.Interp) :
    ReturnsInHanded {} Tryd.checked os 4 .any ((OpenSpec.ofChange Rows.fnGcdSpec).preRow enc Tryd.prog Tryd.f4 Rows.fnGcdRow.domain false Rows.fnGcdRow.laid) (((OpenSpec.ofChange Rows.fnGcdSpec).at F).post enc Tryd.prog Tryd.f4 false true false false) := by
  obtain ⟨places, hx⟩ := reads os enc
  refine returnsInHanded_of_row (C := Tryd.checked) (s := OpenSpec.ofChange Rows.fnGcdSpec) own started (by kernel_rfl) Tryd.func4
    (witness_row_at (enc := enc) (C := Tryd.checked) false (laidWorld os) #[.slice none 0 0] rfl (by kernel_rfl) (by kernel_rfl) (by kernel_rfl)
      (OpenSpec.preRow_of_cond 8 hx (by kernel_rfl) (fun k hk => by cases hk) (by kernel_rfl) (laid_met os))) ?_
  intro W base args ds gs before hval hW _ _ _ hL _ _
  exact contract H enc W base args ds gs before hval hW hL
theorem closed : joinedFacts Tryd.prog 4 Tryd.f4 (OpenSpec.ofChange Rows.fnGcdSpec).bare Rows.fnGcdRow = true := by
  unfold joinedFacts
  exact both (both (both (both (both (both (both (both (both (both (both (both (both (both (both (both (both (both (both (both (both (both (both (both (both (both (both (both (both (both (both (by as_aux_lemma => kernel_rfl) f_laidOut) f_mapsRowed) (by as_aux_lemma => kernel_rfl)) (by as_aux_lemma => kernel_rfl)) (by as_aux_lemma => kernel_rfl)) f_stops) (by as_aux_lemma => kernel_rfl)) f_knobs) (by as_aux_lemma => kernel_rfl)) (by as_aux_lemma => kernel_rfl)) (by as_aux_lemma => kernel_rfl)) (by as_aux_lemma => kernel_rfl)) (by as_aux_lemma => kernel_rfl)) (by as_aux_lemma => kernel_rfl)) (by as_aux_lemma => kernel_rfl)) (by as_aux_lemma => kernel_rfl)) (by as_aux_lemma => kernel_rfl)) (by as_aux_lemma => kernel_rfl)) (by as_aux_lemma => kernel_rfl)) (by as_aux_lemma => kernel_rfl)) (by as_aux_lemma => kernel_rfl)) f_keys) (by as_aux_lemma => kernel_rfl)) f_heard) f_enter) f_lifts) f_make) (by as_aux_lemma => kernel_rfl)) (by as_aux_lemma => kernel_rfl)) (by as_aux_lemma => kernel_rfl)) (by as_aux_lemma => kernel_rfl)
theorem said : Rows.FnGcdSaid :=
  OpenClaim.holds_of_cond 4 Tryd.f4 rfl rfl rfl rfl rfl rfl rfl ⟨rfl, rfl, rfl, rfl, rfl⟩ rfl rfl rfl rfl rfl (by as_aux_lemma => kernel_rfl) Tryd.func4 closed
    (of_decide_eq_true (by as_aux_lemma => kernel_rfl)) (by unfold Func.isWrapper; rw [if_neg (by decide +kernel)]; exact ⟨rfl, rfl⟩)
    (fun os started H enc _ F => by rw [OpenClaim.pre_eq_preRow]; exact lifted os started H enc F)
theorem plain (f : FuncId) (fn : Func) (hf : Tryd.pinned.checked.prog.funcNamed "loop.example/g00710/laws.FnGcd" = some f) (hfn : Tryd.pinned.checked.prog.funcs[f]? = some fn) :
    false = Tryd.pinned.checked.prog.looks [] ∧ ∀ (j : Nat) t, fn.params[j]? = some t → Tryd.pinned.checked.prog.wantsStandIn t = false := by
  obtain rfl : f = 4 := Option.some.inj ((show Tryd.prog.funcNamed "loop.example/g00710/laws.FnGcd" = some 4 by kernel_rfl).symm.trans hf) |>.symm
  obtain rfl : fn = Tryd.f4 := (Option.some.inj (Tryd.func4.symm.trans hfn)).symm
  refine ⟨f_looks, fun j t ht => ?_⟩
  rw [Tryd.params4] at ht
  obtain rfl : t = 22 := by simpa using Array.mem_of_getElem? ht
  exact (show Tryd.prog.wantsStandIn 22 = false by kernel_rfl)
end Gcd
theorem fnGcd_card : Rows.FnGcdCardSaid :=
  Claim7.holds_tied_plain_at .later [] _ _ _ _ Gcd.said (fun _ h => by cases h) (by as_aux_lemma => kernel_rfl) (fun _ h => by cases h) fnGcd_row_tie rfl ⟨rfl, rfl⟩ f_main rfl Gcd.plain (by as_aux_lemma => kernel_rfl)
end Go.Proofs.YtoohhcfanllhmaaDoor
