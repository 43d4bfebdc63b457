/- FnExactRuneRead: the walk of the law from the contracts of the program, of its model and of the laws' helpers; at every byte slice and every int, under the row's own condition on the listed variables. -/
import Derived.Test.YtmmdggmnjmoebaaDoorRuneS
import Derived.Test.YtmmdggmnjmoebaaDoorBytesC
namespace Go.Proofs.YtmmdggmnjmoebaaDoor.RuneRL
open Go.RowKit Go.Proofs.YtmmdggmnjmoebaaDoor.Bytes Go.Proofs.YtmmdggmnjmoebaaDoor.Rune
set_option linter.unusedVariables false
theorem tabs_below {w w' : World} (h : Dec.Tabs8 w) (hb : Below w.heap.size w w') : Dec.Tabs8 w' := by
  refine ⟨fun c hc => ?_, fun i hi => ⟨?_, ?_⟩⟩
  · have e := h.1 c hc
    exact (hb.cell (p := ⟨0, c, none⟩) (World.block_lt_of_cell? w _ e)).trans e
  · have e := (h.2 i hi).1
    exact (hb.cell (p := ⟨1, 2 * i, none⟩) (World.block_lt_of_cell? w _ e)).trans e
  · have e := (h.2 i hi).2
    exact (hb.cell (p := ⟨1, 2 * i + 1, none⟩) (World.block_lt_of_cell? w _ e)).trans e
set_option maxRecDepth 100000 in
set_option maxHeartbeats 1600000 in
theorem walk (a0 : Option Addr) (len0 cap0 : Nat) (z0 : List Int) (at_ : Int) (w : World) (w0 : IsRow .u8 w a0 len0 cap0 z0) (w1 : (Lit.int .i64 at_).wf = true) (hT : Dec.Tabs8 w) :
    Calls Tryd.prog 3 #[.slice a0 len0 cap0, .int .i64 at_] w fun e w' => e = .returned (.bool true) ∧ Below w.heap.size w w' := by
  obtain ⟨HR, hl, hA, hrng⟩ := w0.open_
  clear w0 w1 hA
  generalize z0.take len0 = zs at *
  by_cases hbig : len0 ≤ 1048576
  · have HL := Lib.hid hl
    have HG := Lib.hid hrng
    have HR := Lib.hid HR
    have HT := Lib.hid hT
    clear hl hrng hT
    have HS := Lib.hid (fun A' c' W (h : Rd W W.heap.size A' zs) (hc : len0 ≤ c') => spec_RuneRead_any A' len0 c' zs at_ W h HG.out HL.out (by omega) hc)
    have HI := Lib.hid (fun A' c' W (hT : Dec.Tabs8 W) (h : Rd W W.heap.size A' zs) (hc : len0 ≤ c') => impl_RuneRead_any A' len0 c' zs at_ W hT h HG.out HL.out (by omega) hc)
    generalize rdV zs at_ = v at *
    obtain ⟨v1, v2⟩ := v
    have e1 : (v1 != v1) = false := by simp
    have e2 : (v2 != v2) = false := by simp
    go_enter Tryd.func3, Tryd.ntmps3
    go_wp2_with fail
    refine (toByteS_any a0 len0 cap0 zs _ HR.out HL.out (by omega)).mono ?_
    rintro e u1 ⟨A1, c1, rfl, ho1, hb1⟩
    have HB1 := Lib.hid hb1
    have HO1 := Lib.hid ho1
    clear hb1 ho1
    go_wp2_with fail
    refine (HS.out A1 c1 _ HO1.out.rd HO1.out.cap).mono ?_
    rintro e u2 ⟨rfl, hb2⟩
    have HB2 := Lib.hid (HB1.out.trans (hb2.mono HB1.out.size))
    clear hb2
    go_wp2_with fail
    refine (toByteS_any a0 len0 cap0 zs _ ((HR.out.below (Nat.le_refl _) HB2.out).more HB2.out.size) HL.out (by omega)).mono ?_
    rintro e u3 ⟨A3, c3, rfl, ho3, hb3⟩
    have HB3 := Lib.hid (HB2.out.trans (hb3.mono HB2.out.size))
    have HO3 := Lib.hid ho3
    clear hb3 ho3
    go_wp2_with fail
    refine (HI.out A3 c3 _ (tabs_below HT.out HB3.out) HO3.out.rd HO3.out.cap).mono ?_
    rintro e u4 ⟨rfl, hb4⟩
    have HB4 := Lib.hid (HB3.out.trans (hb4.mono HB3.out.size))
    have HO4 := Lib.hid (HO3.out.below (Nat.le_refl _) hb4)
    clear hb4
    go_wp2_with fail
    refine (toByteS_any a0 len0 cap0 zs _ ((HR.out.below (Nat.le_refl _) HB4.out).more HB4.out.size) HL.out (by omega)).mono ?_
    rintro e u5 ⟨A5, c5, rfl, ho5, hb5⟩
    have HB5 := Lib.hid (HB4.out.trans (hb5.mono HB4.out.size))
    have HO5 := Lib.hid (HO4.out.below (Nat.le_refl _) hb5)
    have HP5 := Lib.hid ho5
    clear hb5 ho5
    go_wp2_with fail
    refine (eqByteS_yes A3 A5 len0 c3 len0 c5 _ _ HO5.out.rd HP5.out.rd HL.out HL.out (by omega)).mono ?_
    rintro e u6 ⟨rfl, hb6⟩
    have HB6 := Lib.hid (HB5.out.trans (hb6.mono HB5.out.size))
    clear hb6
    go_wp2_with fail
    go_ret
    exact ⟨rfl, HB6.out⟩
  · have hbig' : 1048576 < len0 := by omega
    go_enter Tryd.func3, Tryd.ntmps3
    go_wp2_with fail
    go_ret
    exact ⟨rfl, Below.refl _ _⟩
end Go.Proofs.YtmmdggmnjmoebaaDoor.RuneRL
