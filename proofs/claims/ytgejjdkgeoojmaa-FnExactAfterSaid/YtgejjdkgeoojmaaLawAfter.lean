/- FnExactAfter: the walk of the law; at every list of nodes and every pane, no condition. -/
import Derived.Test.YtgejjdkgeoojmaaTrSrA
namespace Go.Proofs.Ytgejjdkgeoojmaa.fnExactAfter
open Go.RowKit Go.Proofs.Ytgejjdkgeoojmaa.Bytes Go.Proofs.Ytgejjdkgeoojmaa.Rows_ Go.Proofs.Ytgejjdkgeoojmaa.RowK Go.Proofs.Ytgejjdkgeoojmaa.DOk Go.Proofs.Ytgejjdkgeoojmaa.Tr
set_option linter.unusedVariables false
theorem own : ownKnob Try.prog.godebug = none := by kernel_rfl
set_option maxRecDepth 100000 in
set_option maxHeartbeats 6400000 in
theorem walk (a0 : Option Addr) (len0 cap0 : Nat) (cs : List NodeD) (p1 : Int) (w : World) (f1 : RdN w w.heap.size a0 cs) (f2 : cs.length = len0) (f3 : len0 ≤ 9223372036854775807) (w_p1 : (Lit.int .i64 p1).wf = true) :
    Calls Try.prog 14 #[.slice a0 len0 cap0, .int .i64 p1] w fun e w' => e = .returned (.bool true) ∧ Below w.heap.size w w' := by
  have HSZ := Lib.hid (fun W => szNodeS_any a0 len0 cap0 1048576 W f3 (by omega) (by omega))
  have HL := Lib.hid f2
  have HRD := Lib.hid f1
  clear f1 f2
  by_cases hbig : (1048576 : Int) < (len0 : Int)
  · rw [if_pos hbig] at HSZ
    go_enter Try.func14, Try.ntmps14
    go_wp2_with fail
    refine (HSZ.out _).mono ?_
    rintro e w1 ⟨rfl, rfl⟩
    go_wp2_with fail
    go_ret
    exact ⟨rfl, Below.refl _ _⟩
  · have hlen : len0 ≤ 1048576 := by omega
    rw [if_neg hbig] at HSZ
    clear hbig
    have HTO := Lib.hid (fun (W : World) (h : Below w.heap.size w W) => toNodeS_any a0 len0 cap0 cs W ((HRD.out.below (Nat.le_refl _) h).more h.size) HL.out (by omega))
    obtain ⟨r0, hr0⟩ : ∃ r : Int, r = afterD (leavesD cs) p1 := ⟨_, rfl⟩
    have hne : (r0 != r0) = false := by simp
    have HSpec := Lib.hid (fun (W : World) (F : Option Addr) (d_ : Nat) (h : InN W W.heap.size F len0 d_ cs) => show Calls Try.prog 55 #[.slice F len0 d_, .int .i64 p1] W (fun e w' => e = .returned (.int .i64 r0) ∧ Below W.heap.size W w') from by rw [hr0]; exact spec_After_any F len0 d_ _ cs p1 W h)
    have HImpl := Lib.hid (fun (W : World) (F : Option Addr) (d_ : Nat) (h : InN W W.heap.size F len0 d_ cs) => show Calls Try.prog 56 #[.slice F len0 d_, .int .i64 p1] W (fun e w' => e = .returned (.int .i64 r0) ∧ Below W.heap.size W w') from by rw [hr0]; exact impl_After_any F len0 d_ _ cs p1 W h)
    clear hr0
    go_enter Try.func14, Try.ntmps14
    go_wp2_with fail
    refine (HSZ.out _).mono ?_
    rintro e w1 ⟨rfl, rfl⟩
    go_wp2_with fail
    refine (HTO.out _ (Below.refl _ _)).mono ?_
    rintro e w2 ⟨A2, c2, rfl, ho2, hb2⟩
    have HO2 := Lib.hid ho2
    have HB2 := Lib.hid hb2
    clear ho2 hb2
    go_wp2_with fail
    refine (HSpec.out _ _ _ HO2.out.in_).mono ?_
    rintro e w3 ⟨rfl, hb3⟩
    have HB3 := Lib.hid (HB2.out.trans (hb3.mono HB2.out.size))
    clear hb3
    go_wp2_with fail
    refine (HTO.out _ HB3.out).mono ?_
    rintro e w4 ⟨A4, c4, rfl, ho4, hb4⟩
    have HO4 := Lib.hid ho4
    have HB4 := Lib.hid (HB3.out.trans (hb4.mono HB3.out.size))
    clear ho4 hb4
    go_wp2_with fail
    refine (HImpl.out _ _ _ HO4.out.in_).mono ?_
    rintro e w5 ⟨rfl, hb5⟩
    have HO5 := Lib.hid (HO4.out.below (Nat.le_refl _) hb5)
    have HB5 := Lib.hid (HB4.out.trans (hb5.mono HB4.out.size))
    clear hb5
    go_wp2_with fail
    refine (HTO.out _ HB5.out).mono ?_
    rintro e w7 ⟨A7, c7, rfl, ho7, hb7⟩
    have HO7 := Lib.hid ho7
    have HOX := Lib.hid (HO5.out.below (Nat.le_refl _) hb7)
    have HB7 := Lib.hid (HB5.out.trans (hb7.mono HB5.out.size))
    clear ho7 hb7
    go_wp2_with fail
    refine (eqNodeS_yes A4 A7 len0 c4 c7 cs _ HOX.out.rd HO7.out.rd HL.out (by omega)).mono ?_
    rintro e w8 ⟨rfl, hb8⟩
    have HB8 := Lib.hid (HB7.out.trans (hb8.mono HB7.out.size))
    clear hb8
    go_wp2_with fail
    go_ret
    exact ⟨rfl, HB8.out⟩
end Go.Proofs.Ytgejjdkgeoojmaa.fnExactAfter

