/- FnExactGetText: the walk of the law from the contracts of the program, of its model and of the laws' helpers; at every input, no condition. -/
import Derived.Test.YtabbdppmnngjgaaBytes
import Derived.Test.YtabbdppmnngjgaaGetText
namespace Go.Proofs.Ytabbdppmnngjgaa.fnExactGetText
open Go.RowKit Go.Proofs.Ytabbdppmnngjgaa.Bytes Go.Proofs.Ytabbdppmnngjgaa.Var
set_option linter.unusedVariables false
theorem own : ownKnob Try.prog.godebug = none := by kernel_rfl

set_option maxRecDepth 100000 in
set_option maxHeartbeats 4000000 in
theorem walk (a0 : Option Addr) (len0 cap0 : Nat) (z0 : List Int) (a1 : Int) (w : World) (w0 : IsRow .u8 w a0 len0 cap0 z0) (w1 : (Lit.int .i64 a1).wf = true) :
    Calls Try.prog 4 #[.slice a0 len0 cap0, .int .i64 a1] w fun e w' => e = .returned (.bool true) ∧ Below w.heap.size w w' := by
  obtain ⟨HR, hl, hA, hrng⟩ := w0.open_
  have hi64 := wf_i64 w1
  clear w0 w1
  generalize z0.take len0 = zs at *
  by_cases hbig : len0 ≤ 1048576
  · have hlen : zs.length ≤ 1048576 := by omega
    have HL := Lib.hid hl
    have HA := Lib.hid hA
    clear hl hA
    go_enter Try.func4, Try.ntmps4
    have hb0 := Below.refl w.heap.size w
    have hs0 : w.heap.size ≤ w.heap.size := Nat.le_refl _
    go_wp2_with fail
    refine (toByteS_any a0 len0 cap0 zs _ ((HR.below (Nat.le_refl _) hb0).more hs0) HL.out (by omega)).mono ?_
    rintro e v1 ⟨A1, c1, rfl, ho1, hx1⟩
    have hb1 := hb0.trans (hx1.mono hs0)
    have hs1 := hb1.size
    go_wp2_with fail
    refine (spec_GetText_any A1 len0 c1 zs a1 _ ho1.rd hrng HL.out (by omega) ho1.cap).mono ?_
    rintro e v2 ⟨he, hx2⟩
    unfold gtRet at he
    subst he
    have hb2 := hb1.trans (hx2.mono hs1)
    have hs2 := hb2.size
    clear ho1
    go_wp2_with fail
    refine (toByteS_any a0 len0 cap0 zs _ ((HR.below (Nat.le_refl _) hb2).more hs2) HL.out (by omega)).mono ?_
    rintro e v3 ⟨A3, c3, rfl, ho3, hx3⟩
    have hb3 := hb2.trans (hx3.mono hs2)
    have hs3 := hb3.size
    go_wp2_with fail
    refine (impl_GetText_any A3 len0 c3 zs a1 _ ho3.rd hrng HL.out (by omega) ho3.cap).mono ?_
    rintro e v4 ⟨he, rfl⟩
    unfold gtRet at he
    subst he
    go_wp2_with fail
    refine (toByteS_any a0 len0 cap0 zs _ ((HR.below (Nat.le_refl _) hb3).more hs3) HL.out (by omega)).mono ?_
    rintro e v5 ⟨A5, c5, rfl, ho5, hx5⟩
    have ho3' := ho3.below (Nat.le_refl _) hx5
    have hb5 := hb3.trans (hx5.mono hs3)
    have hs5 := hb5.size
    clear ho3
    go_wp2_with fail
    refine (eqByteS_yes A3 A5 len0 c3 len0 c5 _ _ ho3'.rd ho5.rd ho3'.len ho5.len (by omega)).mono ?_
    rintro e v6 ⟨rfl, hx6⟩
    have hb6 := hb5.trans (hx6.mono hs5)
    go_wp2_with fail
    go_ret
    exact ⟨rfl, hb6⟩
  · have hbig' : 1048576 < len0 := by omega
    go_enter Try.func4, Try.ntmps4
    go_wp2_with fail
    go_ret
    exact ⟨rfl, Below.refl _ _⟩
end Go.Proofs.Ytabbdppmnngjgaa.fnExactGetText
