/- FnExactRuneBegin: the walk of the law from the contracts of the program, of its model and of the laws' helpers; at every byte slice, under the row's own condition on the listed variables. -/
import Derived.Test.YtmmdggmnjmoebaaDoorRuneSb
import Derived.Test.YtmmdggmnjmoebaaDoorRuneBg
import Derived.Test.YtmmdggmnjmoebaaDoorBytesC
import Derived.Test.YtmmdggmnjmoebaaDoorTabsBelow
namespace Go.Proofs.YtmmdggmnjmoebaaDoor.RuneBL
open Go.RowKit Go.Proofs.YtmmdggmnjmoebaaDoor.Bytes Go.Proofs.YtmmdggmnjmoebaaDoor.Rune
set_option linter.unusedVariables false
set_option maxRecDepth 100000 in
set_option maxHeartbeats 1600000 in
theorem walk (a0 : Option Addr) (len0 cap0 : Nat) (z0 : List Int) (w : World) (w0 : IsRow .u8 w a0 len0 cap0 z0) (hT : Dec.Tabs8 w) :
    Calls Tryd.prog 4 #[.slice a0 len0 cap0] w fun e w' => e = .returned (.bool true) ∧ Below w.heap.size w w' := by
  obtain ⟨HR, hl, hA, hrng⟩ := w0.open_
  clear w0 hA
  generalize z0.take len0 = zs at *
  by_cases hbig : len0 ≤ 1048576
  · have HL := Lib.hid hl
    have HG := Lib.hid hrng
    have HR := Lib.hid HR
    have HT := Lib.hid hT
    clear hl hrng hT
    have HS := Lib.hid (fun A' c' W base (h : Own W base A' len0 c' zs) => spec_RuneBegin_any A' len0 c' zs W h.rd HG.out HL.out (own_none h) (by omega) h.cap)
    have HI := Lib.hid (fun A' c' W (hT : Dec.Tabs8 W) (h : Rd W W.heap.size A' zs) => impl_RuneBegin_any A' len0 c' zs W hT h HG.out HL.out)
    cases begB zs
    all_goals
      go_enter Tryd.func4, Tryd.ntmps4
      go_wp2_with fail
      refine (toByteS_any a0 len0 cap0 zs _ HR.out HL.out (by omega)).mono ?_
      rintro e u1 ⟨A1, c1, rfl, ho1, hb1⟩
      have HB1 := Lib.hid hb1
      have HO1 := Lib.hid ho1
      clear hb1 ho1
      go_wp2_with fail
      refine (HS.out A1 c1 _ _ HO1.out).mono ?_
      rintro e u2 ⟨rfl, hb2⟩
      have HB2 := Lib.hid (HB1.out.trans (hb2.mono HB1.out.size))
      clear hb2
      go_wp2_with fail
      refine (toByteS_any a0 len0 cap0 zs _ ((HR.out.below (Nat.le_refl _) HB2.out).more HB2.out.size) HL.out (by omega)).mono ?_
      rintro e u3 ⟨A3, c3, rfl, ho3, hb3⟩
      have HB3 := Lib.hid (HB2.out.trans (hb3.mono HB2.out.size))
      have HO3 := Lib.hid ho3
      clear hb3 ho3
      go_wp2_with fail
      refine (HI.out A3 c3 _ (tabs_below HT.out HB3.out) HO3.out.rd).mono ?_
      rintro e u4 ⟨rfl, hb4⟩
      have HB4 := Lib.hid (HB3.out.trans (hb4.mono HB3.out.size))
      have HO4 := Lib.hid (HO3.out.below (Nat.le_refl _) hb4)
      clear hb4
      go_wp2_with fail
      refine (toByteS_any a0 len0 cap0 zs _ ((HR.out.below (Nat.le_refl _) HB4.out).more HB4.out.size) HL.out (by omega)).mono ?_
      rintro e u5 ⟨A5, c5, rfl, ho5, hb5⟩
      have HB5 := Lib.hid (HB4.out.trans (hb5.mono HB4.out.size))
      have HO5 := Lib.hid (HO4.out.below (Nat.le_refl _) hb5)
      have HP5 := Lib.hid ho5
      clear hb5 ho5
      go_wp2_with fail
      refine (eqByteS_yes A3 A5 len0 c3 len0 c5 _ _ HO5.out.rd HP5.out.rd HL.out HL.out (by omega)).mono ?_
      rintro e u6 ⟨rfl, hb6⟩
      have HB6 := Lib.hid (HB5.out.trans (hb6.mono HB5.out.size))
      clear hb6
      go_wp2_with fail
      go_ret
      exact ⟨rfl, HB6.out⟩
  · have hbig' : 1048576 < len0 := by omega
    go_enter Tryd.func4, Tryd.ntmps4
    go_wp2_with fail
    go_ret
    exact ⟨rfl, Below.refl _ _⟩
end Go.Proofs.YtmmdggmnjmoebaaDoor.RuneBL
