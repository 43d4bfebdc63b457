/- FnExactSplit: the walk of the law; at every list of nodes and every arguments, no condition. -/
import Derived.Test.YtgejjdkgeoojmaaTrSt
import Derived.Test.YtgejjdkgeoojmaaTrMk
namespace Go.Proofs.Ytgejjdkgeoojmaa.fnExactSplit
open Go.RowKit Go.Proofs.Ytgejjdkgeoojmaa.Bytes Go.Proofs.Ytgejjdkgeoojmaa.Rows_ Go.Proofs.Ytgejjdkgeoojmaa.RowK Go.Proofs.Ytgejjdkgeoojmaa.DOk Go.Proofs.Ytgejjdkgeoojmaa.Tr
set_option linter.unusedVariables false
theorem own : ownKnob Try.prog.godebug = none := by kernel_rfl
set_option maxRecDepth 100000 in
set_option maxHeartbeats 6400000 in
theorem walk (a0 : Option Addr) (len0 cap0 : Nat) (cs : List NodeD) (p1 : Int) (p2 : Int) (p3 : Bool) (p4 : Int) (p5 : Int) (w : World) (f1 : RdN w w.heap.size a0 cs) (f2 : cs.length = len0) (f3 : len0 ≤ 9223372036854775807) (w_p1 : (Lit.int .i64 p1).wf = true) (w_p2 : (Lit.int .i64 p2).wf = true) (w_p4 : (Lit.int .i64 p4).wf = true) (w_p5 : (Lit.int .i64 p5).wf = true) :
    Calls Try.prog 12 #[.slice a0 len0 cap0, .int .i64 p1, .int .i64 p2, .bool p3, .int .i64 p4, .int .i64 p5] w fun e w' => e = .returned (.bool true) ∧ Below w.heap.size w w' := by
  have HSZ := Lib.hid (fun W => szNodeS_any a0 len0 cap0 1048576 W f3 (by omega) (by omega))
  have HL := Lib.hid f2
  have HRD := Lib.hid f1
  clear f1 f2
  by_cases hbig : (1048576 : Int) < (len0 : Int)
  · rw [if_pos hbig] at HSZ
    go_enter Try.func12, Try.ntmps12
    go_wp2_with fail
    refine (HSZ.out _).mono ?_
    rintro e w1 ⟨rfl, rfl⟩
    go_wp2_with fail
    go_ret
    exact ⟨rfl, Below.refl _ _⟩
  · have hlen : len0 ≤ 1048576 := by omega
    rw [if_neg hbig] at HSZ
    clear hbig
    have HTO := Lib.hid (fun (W : World) (h : Below w.heap.size w W) => toNodeS_any a0 len0 cap0 cs W ((HRD.out.below (Nat.le_refl _) h).more h.size) HL.out (by omega))
    obtain ⟨rs, hrs⟩ : ∃ l, l = (splitD cs p1 p2 p3 p4 p5).getD [] := ⟨_, rfl⟩
    obtain ⟨r1, hr1⟩ : ∃ b, b = (splitD cs p1 p2 p3 p4 p5).isSome := ⟨_, rfl⟩
    have hne : (r1 != r1) = false := by simp
    have hrl : rs.length ≤ 31 := by rw [hrs]; exact splitD_len
    have HSpec := Lib.hid (fun (W : World) (F : Option Addr) (d_ : Nat) (h : InN W W.heap.size F len0 d_ cs) => show Calls Try.prog 50 #[.slice F len0 d_, .int .i64 p1, .int .i64 p2, .bool p3, .int .i64 p4, .int .i64 p5] W (fun e w' => ∃ A' n' c', e = .returned (.tuple #[.slice A' n' c', .bool r1]) ∧ OwnN w' W.heap.size A' n' c' rs ∧ Below W.heap.size W w') from by rw [hrs, hr1]; exact (spec_Split_any F len0 d_ _ cs p1 p2 p3 p4 p5 W h).mono fun e w' q => q.out)
    have HImpl := Lib.hid (fun (W : World) (F : Option Addr) (d_ : Nat) (h : InN W W.heap.size F len0 d_ cs) => show Calls Try.prog 51 #[.slice F len0 d_, .int .i64 p1, .int .i64 p2, .bool p3, .int .i64 p4, .int .i64 p5] W (fun e w' => ∃ A' n' c', e = .returned (.tuple #[.slice A' n' c', .bool r1]) ∧ OwnN w' W.heap.size A' n' c' rs ∧ Below W.heap.size W w') from by rw [hrs, hr1]; exact (impl_Split_any F len0 d_ _ cs p1 p2 p3 p4 p5 W h).mono fun e w' q => q.out)
    clear hrs hr1
    go_enter Try.func12, Try.ntmps12
    go_wp2_with fail
    refine (HSZ.out _).mono ?_
    rintro e w1 ⟨rfl, rfl⟩
    go_wp2_with fail
    refine (HTO.out _ (Below.refl _ _)).mono ?_
    rintro e w2 ⟨A2, c2, rfl, ho2, hb2⟩
    have HO2 := Lib.hid ho2
    have HB2 := Lib.hid hb2
    clear ho2 hb2
    go_wp2_with fail
    refine (HSpec.out _ _ _ HO2.out.in_).mono ?_
    rintro e w3 ⟨A3, n3, c3, rfl, ho3, hb3⟩
    have HW3 := Lib.hid ho3
    have HB3 := Lib.hid (HB2.out.trans (hb3.mono HB2.out.size))
    have hn3 := ho3.len
    clear ho3 hb3
    go_wp2_with fail
    refine (HTO.out _ HB3.out).mono ?_
    rintro e w4 ⟨A4, c4, rfl, ho4, hb4⟩
    have HO4 := Lib.hid ho4
    have HW4 := Lib.hid (HW3.out.below (Nat.le_refl _) hb4)
    have HB4 := Lib.hid (HB3.out.trans (hb4.mono HB3.out.size))
    have hs4 := Lib.hid hb4.size
    clear ho4 hb4
    go_wp2_with fail
    refine (HImpl.out _ _ _ HO4.out.in_).mono ?_
    rintro e w5 ⟨A5, n5, c5, rfl, ho5, hb5⟩
    have hn5 := ho5.len
    have HG5 := Lib.hid ho5
    have HO5 := Lib.hid (HO4.out.below (Nat.le_refl _) hb5)
    have HW5 := Lib.hid (HW4.out.below (Nat.le_refl _) hb5)
    have HB5 := Lib.hid (HB4.out.trans (hb5.mono HB4.out.size))
    have hs5 := Lib.hid hb5.size
    obtain rfl : n5 = n3 := by omega
    have HNn5 := Lib.hid hn5
    have hnb : n5 ≤ 31 := by omega
    clear ho5 hb5 hn3 hn5 hrl
    go_wp2_with fail
    refine (eqNodeS_yes A5 A3 n5 c5 c3 rs _ HG5.out.rd HW5.out.rd HNn5.out (by omega)).mono ?_
    rintro e w6 ⟨rfl, hb6⟩
    have HG6 := Lib.hid (HG5.out.below (Nat.le_refl _) hb6)
    have HO6 := Lib.hid (HO5.out.below (Nat.le_refl _) hb6)
    have HW6 := Lib.hid (HW5.out.below (Nat.le_refl _) hb6)
    have HB6 := Lib.hid (HB5.out.trans (hb6.mono HB5.out.size))
    have hs6 := Lib.hid hb6.size
    clear hb6
    go_wp2_with fail
    refine (HTO.out _ HB6.out).mono ?_
    rintro e w7 ⟨A7, c7, rfl, ho7, hb7⟩
    have HX7 := Lib.hid ho7
    have HG7 := Lib.hid (HG6.out.below (Nat.le_refl _) hb7)
    have HO7 := Lib.hid (HO6.out.below (Nat.le_refl _) hb7)
    have HW7 := Lib.hid (HW6.out.below (Nat.le_refl _) hb7)
    have HB7 := Lib.hid (HB6.out.trans (hb7.mono HB6.out.size))
    have hs7 := Lib.hid hb7.size
    clear ho7 hb7
    go_wp2_with fail
    refine (eqNodeS_yes A4 A7 len0 c4 c7 cs _ HO7.out.rd HX7.out.rd HL.out (by omega)).mono ?_
    rintro e w8 ⟨rfl, hb8⟩
    have HG8 := Lib.hid (HG7.out.below (Nat.le_refl _) hb8)
    have HO8 := Lib.hid (HO7.out.below (Nat.le_refl _) hb8)
    have HW8 := Lib.hid (HW7.out.below (Nat.le_refl _) hb8)
    have HB8 := Lib.hid (HB7.out.trans (hb8.mono HB7.out.size))
    have hs8 := Lib.hid hb8.size
    clear hb8
    go_wp2_with fail
    refine (markNodeS_any A4 len0 c4 _ cs 1 _ HO8.out (by omega) (by omega) (by omega)).mono ?_
    rintro e w9 ⟨rfl, ho9, hon9⟩
    have HG9 := Lib.hid (Only.own HG8.out hon9 (fun g hg hx => by have := (HO8.out.blk g hx).2; have h1 := (HO4.out.blk g hx).2; have h2 := (HG5.out.blk g hg).1; omega))
    have HW9 := Lib.hid (Only.own HW8.out hon9 (fun g hg hx => by have h1 := (HO4.out.blk g hx).1; have h2 := (HW3.out.blk g hg).2; omega))
    have HB9 := Lib.hid (hon9.below_ HB8.out (Nat.le_trans HB3.out.size (Nat.le_trans hs4.out (Nat.le_trans hs5.out (Nat.le_trans hs6.out (Nat.le_trans hs7.out hs8.out))))) (fun i hi => Nat.le_trans HB3.out.size (HO8.out.blk i hi).1))
    have hs9 := Lib.hid hon9.size
    have hk9 : ¬ (1 + 3 * (len0 : Int) < 0) := by omega
    clear ho9 hon9
    go_wp2_with fail
    refine (eqNodeS_yes A5 A3 n5 c5 c3 rs _ (OwnN.rd HG9.out) (OwnN.rd HW9.out) HNn5.out (by omega)).mono ?_
    rintro e w10 ⟨rfl, hb10⟩
    have HG10 := Lib.hid (OwnN.below HG9.out (Nat.le_refl _) hb10)
    have HW10 := Lib.hid (OwnN.below HW9.out (Nat.le_refl _) hb10)
    have HB10 := Lib.hid (HB9.out.trans (hb10.mono HB9.out.size))
    have hs10 := Lib.hid hb10.size
    clear hb10 hk9
    go_wp2_with fail
    refine (markNodeS_any A5 n5 c5 _ rs 1 _ HG10.out (by omega) (by omega) (by omega)).mono ?_
    rintro e w11 ⟨rfl, ho11, hon11⟩
    have HM11 := Lib.hid ho11
    have HW11 := Lib.hid (Only.own HW10.out hon11 (fun g hg hx => by have h1 := (HG5.out.blk g hx).1; have h2 := (HW3.out.blk g hg).2; have := hs4.out; omega))
    have HB11 := Lib.hid (hon11.below_ HB10.out HB10.out.size (fun i hi => Nat.le_trans HB4.out.size (HG5.out.blk i hi).1))
    have hs11 := Lib.hid hon11.size
    clear ho11 hon11
    go_wp2_with fail
    refine (heldNodeS_any A5 n5 c5 1 _ (OwnN.rd HM11.out) (by omega) (by omega) (by omega)).mono ?_
    rintro e w12 ⟨rfl, rfl⟩
    have hk12 : ¬ (1 + 3 * (n5 : Int) < 0) := by omega
    have hk13 : ((1 + 3 * (n5 : Int)) != (1 + 3 * (n5 : Int))) = false := by simp
    go_wp2_with fail
    refine (HTO.out _ HB11.out).mono ?_
    rintro e w13 ⟨A13, c13, rfl, ho13, hb13⟩
    have HX13 := Lib.hid ho13
    have HM13 := Lib.hid (OwnN.below HM11.out (Nat.le_refl _) hb13)
    have HW13 := Lib.hid (OwnN.below HW11.out (Nat.le_refl _) hb13)
    have HB13 := Lib.hid (HB11.out.trans (hb13.mono HB11.out.size))
    clear ho13 hb13
    go_wp2_with fail
    refine (HImpl.out _ _ _ HX13.out.in_).mono ?_
    rintro e w14 ⟨A14, n14, c14, rfl, ho14, hb14⟩
    have hn14 := ho14.len
    obtain rfl : n14 = n5 := by have := HNn5.out; omega
    have HG14 := Lib.hid ho14
    have HM14 := Lib.hid (OwnN.below HM13.out (Nat.le_refl _) hb14)
    have HW14 := Lib.hid (OwnN.below HW13.out (Nat.le_refl _) hb14)
    have HB14 := Lib.hid (HB13.out.trans (hb14.mono HB13.out.size))
    clear ho14 hb14 hn14
    go_wp2_with fail
    refine (eqNodeS_yes A14 A3 n14 c14 c3 rs _ (OwnN.rd HG14.out) (OwnN.rd HW14.out) HNn5.out (by omega)).mono ?_
    rintro e w15 ⟨rfl, hb15⟩
    have HM15 := Lib.hid (OwnN.below HM14.out (Nat.le_refl _) hb15)
    have HB15 := Lib.hid (HB14.out.trans (hb15.mono HB14.out.size))
    clear hb15
    go_wp2_with fail
    refine (heldNodeS_any A5 n14 c5 1 _ (OwnN.rd HM15.out) (by omega) (by omega) (by omega)).mono ?_
    rintro e w16 ⟨rfl, rfl⟩
    go_wp2_with fail
    go_ret
    exact ⟨rfl, HB15.out⟩
end Go.Proofs.Ytgejjdkgeoojmaa.fnExactSplit

