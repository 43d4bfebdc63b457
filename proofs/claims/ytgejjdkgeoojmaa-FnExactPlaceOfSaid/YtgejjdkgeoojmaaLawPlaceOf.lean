/- FnExactPlaceOf: the walk of the law; at every list of nodes and all numbers, no condition. -/
import Derived.Test.YtgejjdkgeoojmaaTrPu
import Derived.Test.YtgejjdkgeoojmaaTrMk
import Derived.Test.YtgejjdkgeoojmaaTrRc
namespace Go.Proofs.Ytgejjdkgeoojmaa.fnExactPlaceOf
open Go.RowKit Go.Proofs.Ytgejjdkgeoojmaa.Bytes Go.Proofs.Ytgejjdkgeoojmaa.Rows_ Go.Proofs.Ytgejjdkgeoojmaa.RowK Go.Proofs.Ytgejjdkgeoojmaa.DOk Go.Proofs.Ytgejjdkgeoojmaa.Tr
set_option linter.unusedVariables false
theorem own : ownKnob Try.prog.godebug = none := by kernel_rfl
set_option maxRecDepth 100000 in
set_option maxHeartbeats 6400000 in
theorem walk (a0 : Option Addr) (len0 cap0 : Nat) (cs : List NodeD) (p1 : Int) (p2 : Int) (p3 : Int) (w : World) (f1 : RdN w w.heap.size a0 cs) (f2 : cs.length = len0) (f3 : len0 ≤ 9223372036854775807) (w_p1 : (Lit.int .i64 p1).wf = true) (w_p2 : (Lit.int .i64 p2).wf = true) (w_p3 : (Lit.int .i64 p3).wf = true) :
    Calls Try.prog 11 #[.slice a0 len0 cap0, .int .i64 p1, .int .i64 p2, .int .i64 p3] w fun e w' => e = .returned (.bool true) ∧ Below w.heap.size w w' := by
  have HSZ := Lib.hid (fun W => szNodeS_any a0 len0 cap0 1048576 W f3 (by omega) (by omega))
  have HL := Lib.hid f2
  have HRD := Lib.hid f1
  clear f1 f2
  by_cases hbig : (1048576 : Int) < (len0 : Int)
  · rw [if_pos hbig] at HSZ
    go_enter Try.func11, Try.ntmps11
    go_wp2_with fail
    refine (HSZ.out _).mono ?_
    rintro e w1 ⟨rfl, rfl⟩
    go_wp2_with fail
    go_ret
    exact ⟨rfl, Below.refl _ _⟩
  · have hlen : len0 ≤ 1048576 := by omega
    rw [if_neg hbig] at HSZ
    clear hbig
    have HTO := Lib.hid (fun (W : World) (h : Below w.heap.size w W) => toNodeS_any a0 len0 cap0 cs W ((HRD.out.below (Nat.le_refl _) h).more h.size) HL.out (by omega))
    obtain ⟨q0, hq0⟩ : ∃ z, z = (pofR (listD cs p1 p2) p3).pane := ⟨_, rfl⟩
    obtain ⟨q1, hq1⟩ : ∃ z, z = (pofR (listD cs p1 p2) p3).x := ⟨_, rfl⟩
    obtain ⟨q2, hq2⟩ : ∃ z, z = (pofR (listD cs p1 p2) p3).y := ⟨_, rfl⟩
    obtain ⟨q3, hq3⟩ : ∃ z, z = (pofR (listD cs p1 p2) p3).w := ⟨_, rfl⟩
    obtain ⟨q4, hq4⟩ : ∃ z, z = (pofR (listD cs p1 p2) p3).h := ⟨_, rfl⟩
    obtain ⟨r1, hr1⟩ : ∃ b, b = (pofD (listD cs p1 p2) p3).isSome := ⟨_, rfl⟩
    have hne : (r1 != r1) = false := by simp
    have HSpec := Lib.hid (fun (W : World) (F : Option Addr) (d_ : Nat) (h : InN W W.heap.size F len0 d_ cs) => show Calls Try.prog 47 #[.slice F len0 d_, .int .i64 p1, .int .i64 p2, .int .i64 p3] W (fun e w' => e = .returned (.tuple #[.agg #[.int .i64 q0, .int .i64 q1, .int .i64 q2, .int .i64 q3, .int .i64 q4], .bool r1]) ∧ Below W.heap.size W w') from by rw [hq0, hq1, hq2, hq3, hq4, hr1]; exact spec_PlaceOf_any F len0 d_ _ cs p1 p2 p3 W h)
    have HImpl := Lib.hid (fun (W : World) (F : Option Addr) (d_ : Nat) (h : InN W W.heap.size F len0 d_ cs) => show Calls Try.prog 48 #[.slice F len0 d_, .int .i64 p1, .int .i64 p2, .int .i64 p3] W (fun e w' => e = .returned (.tuple #[.agg #[.int .i64 q0, .int .i64 q1, .int .i64 q2, .int .i64 q3, .int .i64 q4], .bool r1]) ∧ Below W.heap.size W w') from by rw [hq0, hq1, hq2, hq3, hq4, hr1]; exact impl_PlaceOf_any F len0 d_ _ cs p1 p2 p3 W h)
    clear hq0 hq1 hq2 hq3 hq4 hr1
    go_enter Try.func11, Try.ntmps11
    go_wp2_with fail
    refine (HSZ.out _).mono ?_
    rintro e w1 ⟨rfl, rfl⟩
    go_wp2_with fail
    refine (HTO.out _ (Below.refl _ _)).mono ?_
    rintro e w2 ⟨A2, c2, rfl, ho2, hb2⟩
    have HO2 := Lib.hid ho2
    have HB2 := Lib.hid hb2
    clear ho2 hb2
    go_wp2_with fail
    refine (HSpec.out _ _ _ HO2.out.in_).mono ?_
    rintro e w3 ⟨rfl, hb3⟩
    have HB3a := Lib.hid (HB2.out.trans (hb3.mono HB2.out.size))
    have HB3 := Lib.hid (HB3a.out.alloc HB3a.out.size (.cells #[.int .i64 q0, .int .i64 q1, .int .i64 q2, .int .i64 q3, .int .i64 q4] 65))
    have HX3 := Lib.hid (Opq.RowB.new w3 #[.int .i64 q0, .int .i64 q1, .int .i64 q2, .int .i64 q3, .int .i64 q4] 65)
    clear hb3
    go_wp2_with fail
    refine (HTO.out _ HB3.out).mono ?_
    rintro e w4 ⟨A4, c4, rfl, ho4, hb4⟩
    have HO4 := Lib.hid ho4
    have HX4 := Lib.hid (HX3.out.below hb4 (by simp))
    have HB4 := Lib.hid (HB3.out.trans (hb4.mono HB3.out.size))
    clear ho4 hb4
    go_wp2_with fail
    refine (HImpl.out _ _ _ HO4.out.in_).mono ?_
    rintro e w5 ⟨rfl, hb5⟩
    have HO5 := Lib.hid (HO4.out.below (Nat.le_refl _) hb5)
    have HX5 := Lib.hid (HX4.out.below hb5 HX4.out.lt)
    have HB5 := Lib.hid (HB4.out.trans (hb5.mono HB4.out.size))
    clear hb5
    have x0 : w5.cell? ⟨w3.heap.size, 0, none⟩ = some (.int .i64 q0) := HX5.out.cell 0
    have x1 : w5.cell? ⟨w3.heap.size, 1, none⟩ = some (.int .i64 q1) := HX5.out.cell 1
    have x2 : w5.cell? ⟨w3.heap.size, 2, none⟩ = some (.int .i64 q2) := HX5.out.cell 2
    have x3 : w5.cell? ⟨w3.heap.size, 3, none⟩ = some (.int .i64 q3) := HX5.out.cell 3
    have x4 : w5.cell? ⟨w3.heap.size, 4, none⟩ = some (.int .i64 q4) := HX5.out.cell 4
    have hx1 : w3.heap.size < w5.heap.size := HX5.out.lt
    have hx2 : w3.heap.size ≠ w5.heap.size := by omega
    go_wp2_with fail
    refine (eqRect_yes q0 q1 q2 q3 q4 _).mono ?_
    rintro e w6 ⟨rfl, hb6⟩
    have HO6 := Lib.hid (OwnN.below (OwnN.below HO5.out (Nat.le_refl _) ((Below.refl w5.heap.size w5).alloc (Nat.le_refl _) (.cells #[.int .i64 q0, .int .i64 q1, .int .i64 q2, .int .i64 q3, .int .i64 q4] 65))) (by simp) hb6)
    have HB6 := Lib.hid ((HB5.out.alloc HB5.out.size (.cells #[.int .i64 q0, .int .i64 q1, .int .i64 q2, .int .i64 q3, .int .i64 q4] 65)).trans (hb6.mono (by have := HB5.out.size; simp; omega)))
    clear hb6 x0 x1 x2 x3 x4
    go_wp2_with fail
    refine (HTO.out _ HB6.out).mono ?_
    rintro e w7 ⟨A7, c7, rfl, ho7, hb7⟩
    have HO7 := Lib.hid ho7
    have HOX := Lib.hid (HO6.out.below (Nat.le_refl _) hb7)
    have HB7 := Lib.hid (HB6.out.trans (hb7.mono HB6.out.size))
    clear ho7 hb7
    go_wp2_with fail
    refine (eqNodeS_yes A4 A7 len0 c4 c7 cs _ HOX.out.rd HO7.out.rd HL.out (by omega)).mono ?_
    rintro e w8 ⟨rfl, hb8⟩
    have HB8 := Lib.hid (HB7.out.trans (hb8.mono HB7.out.size))
    clear hb8
    go_wp2_with fail
    go_ret
    exact ⟨rfl, HB8.out⟩
end Go.Proofs.Ytgejjdkgeoojmaa.fnExactPlaceOf

