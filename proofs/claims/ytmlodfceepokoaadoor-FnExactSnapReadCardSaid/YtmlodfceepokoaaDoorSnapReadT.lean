/- Contract of the reading of a snapshot, in the model, where the numbers are right: it writes the snapshot again and compares. -/
import Derived.Test.YtmlodfceepokoaaDoorSnapReadS
namespace Go.Proofs.YtmlodfceepokoaaDoor.Snap
open Go.RowKit Go.Proofs.YtmlodfceepokoaaDoor.Bytes Go.Proofs.YtmlodfceepokoaaDoor.Var Go.Proofs.YtmlodfceepokoaaDoor.Crc Go.Proofs.YtmlodfceepokoaaDoor.Frame
set_option linter.unusedVariables false

set_option maxRecDepth 100000 in
set_option maxHeartbeats 6400000 in
theorem s_4 (A : Option Addr) (n c : Nat) (zs : List Int) (P1 P2 P3 P4 G S Z C : Nat) (w : World) (hr : Rd w w.heap.size A zs) (hg : Rng zs) (hl : zs.length = n) (hn : n ≤ 1099511627776) (hnc : n ≤ c) (hS4 : isS zs = true) (hN : SNums zs P1 P2 P3 P4 G S Z C) (hp0 : 4 < P1) (hp1 : P1 < P2) (hp2 : P2 < P3) (hp3 : P3 < P4) (hp4 : P4 ≤ n) (hG : G ≤ 4294967295) (hS : S ≤ 4294967295) (hZ : Z ≤ 4294967295) (hC : C ≤ 4294967295) (h1 : 1 ≤ G) (h2 : G ≤ 1000000000) (h3 : 1 ≤ S) (h4 : S ≤ 1000000000) (h5 : Z = n - P4) (h6 : Z ≤ 150000) (h7 : snB G S (zs.drop P4) ≠ zs) :
    Calls Tryd.prog 14 #[.slice A n c] w fun e w' => e = .returned (.tuple #[.int .i64 0, .int .i64 0, .slice none 0 0, .int .i64 4]) ∧ Below w.heap.size w w' := by
  have HL := Lib.hid hl
  have HG := Lib.hid hg
  have HR := Lib.hid hr
  have hn4 := isS_len hS4
  have h4' : (4 : Int) ≤ (n : Int) := by omega
  have h4n : 4 ≤ c := by omega
  obtain ⟨b, o, rfl, hB, _⟩ := hr.at_ (k := 0) (by omega)
  have hcv := rd_conv (c := c) hr 4 (by omega) rfl
  obtain ⟨f1, f2⟩ := str_eq (of_decide_eq_true hS4)
  rw [s4_text] at f1 f2
  have fq3 := not_of_bne f1
  generalize strOfNums (zs.take 4) = X at *
  clear hl hS4 hn4 hr
  have HB0 := Lib.hid (Below.refl w.heap.size w)
  have HN := Lib.hid hN
  clear hN
  have hsum : IntKind.i64.wrap ((n : Int) - (P4 : Int)) = (n : Int) - (P4 : Int) := IntWalk.i64_in _ (by omega)
  have H5 := Lib.hid h5
  have hz1 : (Z : Int) = (n : Int) - (P4 : Int) := by omega
  have a1 : (1 : Int) ≤ (G : Int) := by omega
  have a2 : (G : Int) ≤ 1000000000 := by omega
  have a3 : (1 : Int) ≤ (S : Int) := by omega
  have a4 : (S : Int) ≤ 1000000000 := by omega
  have a5 : ((Z : Int) != (n : Int) - (P4 : Int)) = false := by simp; omega
  have a6 : (Z : Int) ≤ 150000 := by omega
  have hZn : n - P4 ≤ 150000 := by omega
  have H7 := Lib.hid h7
  have HLD := Lib.hid (show (zs.drop P4).length = n - P4 by rw [List.length_drop, HL.out])
  have HGD := Lib.hid (rngS_drop HG.out P4)
  have HRD := Lib.hid (rdS_drop HR.out P4 (by rw [HL.out]; exact hp4))
  have hp4i : (P4 : Int) ≤ (n : Int) := by omega
  have hp4c : (P4 : Int) ≤ (c : Int) := by omega
  clear h5 h7 hz1
  generalize zs.drop P4 = dat at *
  by_cases hcE : P4 = c
  · subst hcE
    obtain rfl : n = P4 := by omega
    obtain rfl : dat = [] := List.eq_nil_of_length_eq_zero (by rw [HLD.out]; omega)
    obtain rfl : Z = 0 := by have := H5.out; omega
    clear HLD
    have HLD := Lib.hid (show ([] : List Int).length = 0 from rfl)
    have HRX := Lib.hid (fun (W : World) => show Rd W w.heap.size (some ⟨b, o, none⟩) [] from fun h => absurd h (by simp))
    go_enter Tryd.func14, Tryd.ntmps14
    go_wp2_with fail
    refine (spec_GetVar_any _ n _ zs 4 _ ((HR.out.below (Nat.le_refl _) HB0.out).more HB0.out.size) HG.out HL.out hn hnc).mono ?_
    rintro e v1 ⟨he, hx1⟩
    unfold gvRet at he
    rw [HN.out.o0, HN.out.e0, HN.out.v0] at he
    subst he
    have HB1 := Lib.hid (HB0.out.trans (hx1.mono HB0.out.size))
    clear hx1
    go_wp2_with fail
    refine (spec_GetVar_any _ n _ zs (P1 : Int) _ ((HR.out.below (Nat.le_refl _) HB1.out).more HB1.out.size) HG.out HL.out hn hnc).mono ?_
    rintro e v2 ⟨he, hx2⟩
    unfold gvRet at he
    rw [HN.out.o1, HN.out.e1, HN.out.v1] at he
    subst he
    have HB2 := Lib.hid (HB1.out.trans (hx2.mono HB1.out.size))
    clear hx2
    go_wp2_with fail
    refine (spec_GetVar_any _ n _ zs (P2 : Int) _ ((HR.out.below (Nat.le_refl _) HB2.out).more HB2.out.size) HG.out HL.out hn hnc).mono ?_
    rintro e v3 ⟨he, hx3⟩
    unfold gvRet at he
    rw [HN.out.o2, HN.out.e2, HN.out.v2] at he
    subst he
    have HB3 := Lib.hid (HB2.out.trans (hx3.mono HB2.out.size))
    clear hx3
    go_wp2_with fail
    refine (spec_GetVar_any _ n _ zs (P3 : Int) _ ((HR.out.below (Nat.le_refl _) HB3.out).more HB3.out.size) HG.out HL.out hn hnc).mono ?_
    rintro e v4 ⟨he, hx4⟩
    unfold gvRet at he
    rw [HN.out.o3, HN.out.e3, HN.out.v3] at he
    subst he
    have HB4 := Lib.hid (HB3.out.trans (hx4.mono HB3.out.size))
    clear hx4
    have hown : Own (v4.alloc (.cells #[] 5)) v4.heap.size (some ⟨v4.heap.size, 0, none⟩) 0 0 [] := World.ownsRow_lit v4 #[] 0 (Nat.le_refl _) (by decide) rfl
    have hbw : Below v4.heap.size v4 (v4.alloc (.cells #[] 5)) := (Below.refl _ _).alloc (Nat.le_refl _) _
    have HOW := Lib.hid hown
    have HBW := Lib.hid hbw
    have HR4 := Lib.hid (HRX.out (v4.alloc (.cells #[] 5)))
    clear hown hbw
    go_wp2_with (at_builtin; refine append_src rfl _ _ rfl rfl rfl HOW.out HR4.out (fun h => nomatch h) HLD.out (by omega) (by omega) (by simp) ?_)
    intro A5 c5 v5 ho5 hx5
    have HB5 := Lib.hid (HB4.out.trans ((HBW.out.trans hx5).mono HB4.out.size))
    have HO5 := Lib.hid (ho5.more HB4.out.size)
    clear ho5 hx5
    go_wp2_with fail
    refine (spec_yes A5 _ c5 _ G S _ (own_none HO5.out) HO5.out.rd HGD.out HLD.out (by omega) h1 h2 h3 h4).mono ?_
    rintro e v6 ⟨A6, n6, c6, rfl, ho6, hx6⟩
    have HB6 := Lib.hid (HB5.out.trans (hx6.mono HB5.out.size))
    have HO5' := Lib.hid (HO5.out.below (Nat.le_refl _) hx6)
    have hl6 := ho6.len
    have hp6 : 0 < (snB G S []).length := by unfold snB shd s4; simp
    obtain ⟨g, rfl, hg1, hg2⟩ := ho6.head (by omega)
    have hcv1 := rd_conv (c := c6) ho6.rd n6 (by omega) rfl
    have hcv2 := rd_conv (c := n) (HR.out.below (Nat.le_refl _) HB6.out) n (by rw [HL.out]; exact Nat.le_refl _) rfl
    rw [List.take_of_length_le (by omega)] at hcv1
    rw [List.take_of_length_le (by rw [HL.out]; exact Nat.le_refl _)] at hcv2
    obtain ⟨f3, f4⟩ := str_ne (snB_rng G S _ HGD.out) HG.out H7.out
    generalize strOfNums (snB G S []) = Y1 at *
    generalize strOfNums zs = Y2 at *
    clear hl6 hp6 ho6 hx6
    go_wp2_with fail
    refine bodyPost_ret (v := .tuple #[.int .i64 0, .int .i64 0, .slice none 0 0, .int .i64 4]) (by simp [results, Tryd.results14, go_sem]) rfl ⟨rfl, HB6.out⟩
  · have hcE' : P4 < c := by omega
    clear hcE
    go_enter Tryd.func14, Tryd.ntmps14
    go_wp2_with fail
    refine (spec_GetVar_any _ n _ zs 4 _ ((HR.out.below (Nat.le_refl _) HB0.out).more HB0.out.size) HG.out HL.out hn hnc).mono ?_
    rintro e v1 ⟨he, hx1⟩
    unfold gvRet at he
    rw [HN.out.o0, HN.out.e0, HN.out.v0] at he
    subst he
    have HB1 := Lib.hid (HB0.out.trans (hx1.mono HB0.out.size))
    clear hx1
    go_wp2_with fail
    refine (spec_GetVar_any _ n _ zs (P1 : Int) _ ((HR.out.below (Nat.le_refl _) HB1.out).more HB1.out.size) HG.out HL.out hn hnc).mono ?_
    rintro e v2 ⟨he, hx2⟩
    unfold gvRet at he
    rw [HN.out.o1, HN.out.e1, HN.out.v1] at he
    subst he
    have HB2 := Lib.hid (HB1.out.trans (hx2.mono HB1.out.size))
    clear hx2
    go_wp2_with fail
    refine (spec_GetVar_any _ n _ zs (P2 : Int) _ ((HR.out.below (Nat.le_refl _) HB2.out).more HB2.out.size) HG.out HL.out hn hnc).mono ?_
    rintro e v3 ⟨he, hx3⟩
    unfold gvRet at he
    rw [HN.out.o2, HN.out.e2, HN.out.v2] at he
    subst he
    have HB3 := Lib.hid (HB2.out.trans (hx3.mono HB2.out.size))
    clear hx3
    go_wp2_with fail
    refine (spec_GetVar_any _ n _ zs (P3 : Int) _ ((HR.out.below (Nat.le_refl _) HB3.out).more HB3.out.size) HG.out HL.out hn hnc).mono ?_
    rintro e v4 ⟨he, hx4⟩
    unfold gvRet at he
    rw [HN.out.o3, HN.out.e3, HN.out.v3] at he
    subst he
    have HB4 := Lib.hid (HB3.out.trans (hx4.mono HB3.out.size))
    clear hx4
    have hown : Own (v4.alloc (.cells #[] 5)) v4.heap.size (some ⟨v4.heap.size, 0, none⟩) 0 0 [] := World.ownsRow_lit v4 #[] 0 (Nat.le_refl _) (by decide) rfl
    have hbw : Below v4.heap.size v4 (v4.alloc (.cells #[] 5)) := (Below.refl _ _).alloc (Nat.le_refl _) _
    have HOW := Lib.hid hown
    have HBW := Lib.hid hbw
    have HR4 := Lib.hid (((HRD.out.below (Nat.le_refl _) HB4.out).more HB4.out.size).below (Nat.le_refl _) hbw)
    clear hown hbw
    go_wp2_with (at_builtin; refine append_src rfl _ _ rfl rfl rfl HOW.out HR4.out (fun h => nomatch h) HLD.out (by omega) (by omega) (by simp) ?_)
    intro A5 c5 v5 ho5 hx5
    have HB5 := Lib.hid (HB4.out.trans ((HBW.out.trans hx5).mono HB4.out.size))
    have HO5 := Lib.hid (ho5.more HB4.out.size)
    clear ho5 hx5
    go_wp2_with fail
    refine (spec_yes A5 _ c5 _ G S _ (own_none HO5.out) HO5.out.rd HGD.out HLD.out (by omega) h1 h2 h3 h4).mono ?_
    rintro e v6 ⟨A6, n6, c6, rfl, ho6, hx6⟩
    have HB6 := Lib.hid (HB5.out.trans (hx6.mono HB5.out.size))
    have HO5' := Lib.hid (HO5.out.below (Nat.le_refl _) hx6)
    have hl6 := ho6.len
    have hp6 : 0 < (snB G S dat).length := by unfold snB shd s4; simp
    obtain ⟨g, rfl, hg1, hg2⟩ := ho6.head (by omega)
    have hcv1 := rd_conv (c := c6) ho6.rd n6 (by omega) rfl
    have hcv2 := rd_conv (c := c) (HR.out.below (Nat.le_refl _) HB6.out) n (by rw [HL.out]; exact Nat.le_refl _) rfl
    rw [List.take_of_length_le (by omega)] at hcv1
    rw [List.take_of_length_le (by rw [HL.out]; exact Nat.le_refl _)] at hcv2
    obtain ⟨f3, f4⟩ := str_ne (snB_rng G S _ HGD.out) HG.out H7.out
    generalize strOfNums (snB G S dat) = Y1 at *
    generalize strOfNums zs = Y2 at *
    clear hl6 hp6 ho6 hx6
    go_wp2_with fail
    refine bodyPost_ret (v := .tuple #[.int .i64 0, .int .i64 0, .slice none 0 0, .int .i64 4]) (by simp [results, Tryd.results14, go_sem]) rfl ⟨rfl, HB6.out⟩

set_option maxRecDepth 100000 in
set_option maxHeartbeats 6400000 in
theorem s_0 (A : Option Addr) (n c : Nat) (zs : List Int) (P1 P2 P3 P4 G S Z C : Nat) (w : World) (hr : Rd w w.heap.size A zs) (hg : Rng zs) (hl : zs.length = n) (hn : n ≤ 1099511627776) (hnc : n ≤ c) (hS4 : isS zs = true) (hN : SNums zs P1 P2 P3 P4 G S Z C) (hp0 : 4 < P1) (hp1 : P1 < P2) (hp2 : P2 < P3) (hp3 : P3 < P4) (hp4 : P4 ≤ n) (hG : G ≤ 4294967295) (hS : S ≤ 4294967295) (hZ : Z ≤ 4294967295) (hC : C ≤ 4294967295) (h1 : 1 ≤ G) (h2 : G ≤ 1000000000) (h3 : 1 ≤ S) (h4 : S ≤ 1000000000) (h5 : Z = n - P4) (h6 : Z ≤ 150000) (h7 : snB G S (zs.drop P4) = zs) :
    Calls Tryd.prog 14 #[.slice A n c] w fun e w' => ∃ A' c', e = .returned (.tuple #[.int .i64 G, .int .i64 S, .slice A' Z c', .int .i64 0]) ∧ Own w' w.heap.size A' Z c' (zs.drop P4) ∧ Below w.heap.size w w' := by
  have HL := Lib.hid hl
  have HG := Lib.hid hg
  have HR := Lib.hid hr
  have hn4 := isS_len hS4
  have h4' : (4 : Int) ≤ (n : Int) := by omega
  have h4n : 4 ≤ c := by omega
  obtain ⟨b, o, rfl, hB, _⟩ := hr.at_ (k := 0) (by omega)
  have hcv := rd_conv (c := c) hr 4 (by omega) rfl
  obtain ⟨f1, f2⟩ := str_eq (of_decide_eq_true hS4)
  rw [s4_text] at f1 f2
  have fq3 := not_of_bne f1
  generalize strOfNums (zs.take 4) = X at *
  clear hl hS4 hn4 hr
  have HB0 := Lib.hid (Below.refl w.heap.size w)
  have HN := Lib.hid hN
  clear hN
  have hsum : IntKind.i64.wrap ((n : Int) - (P4 : Int)) = (n : Int) - (P4 : Int) := IntWalk.i64_in _ (by omega)
  have H5 := Lib.hid h5
  have hz1 : (Z : Int) = (n : Int) - (P4 : Int) := by omega
  have a1 : (1 : Int) ≤ (G : Int) := by omega
  have a2 : (G : Int) ≤ 1000000000 := by omega
  have a3 : (1 : Int) ≤ (S : Int) := by omega
  have a4 : (S : Int) ≤ 1000000000 := by omega
  have a5 : ((Z : Int) != (n : Int) - (P4 : Int)) = false := by simp; omega
  have a6 : (Z : Int) ≤ 150000 := by omega
  have hZn : n - P4 ≤ 150000 := by omega
  have H7 := Lib.hid h7
  have HLD := Lib.hid (show (zs.drop P4).length = n - P4 by rw [List.length_drop, HL.out])
  have HGD := Lib.hid (rngS_drop HG.out P4)
  have HRD := Lib.hid (rdS_drop HR.out P4 (by rw [HL.out]; exact hp4))
  have hp4i : (P4 : Int) ≤ (n : Int) := by omega
  have hp4c : (P4 : Int) ≤ (c : Int) := by omega
  clear h5 h7 hz1
  generalize zs.drop P4 = dat at *
  by_cases hcE : P4 = c
  · subst hcE
    obtain rfl : n = P4 := by omega
    obtain rfl : dat = [] := List.eq_nil_of_length_eq_zero (by rw [HLD.out]; omega)
    obtain rfl : Z = 0 := by have := H5.out; omega
    clear HLD
    have HLD := Lib.hid (show ([] : List Int).length = 0 from rfl)
    have HRX := Lib.hid (fun (W : World) => show Rd W w.heap.size (some ⟨b, o, none⟩) [] from fun h => absurd h (by simp))
    go_enter Tryd.func14, Tryd.ntmps14
    go_wp2_with fail
    refine (spec_GetVar_any _ n _ zs 4 _ ((HR.out.below (Nat.le_refl _) HB0.out).more HB0.out.size) HG.out HL.out hn hnc).mono ?_
    rintro e v1 ⟨he, hx1⟩
    unfold gvRet at he
    rw [HN.out.o0, HN.out.e0, HN.out.v0] at he
    subst he
    have HB1 := Lib.hid (HB0.out.trans (hx1.mono HB0.out.size))
    clear hx1
    go_wp2_with fail
    refine (spec_GetVar_any _ n _ zs (P1 : Int) _ ((HR.out.below (Nat.le_refl _) HB1.out).more HB1.out.size) HG.out HL.out hn hnc).mono ?_
    rintro e v2 ⟨he, hx2⟩
    unfold gvRet at he
    rw [HN.out.o1, HN.out.e1, HN.out.v1] at he
    subst he
    have HB2 := Lib.hid (HB1.out.trans (hx2.mono HB1.out.size))
    clear hx2
    go_wp2_with fail
    refine (spec_GetVar_any _ n _ zs (P2 : Int) _ ((HR.out.below (Nat.le_refl _) HB2.out).more HB2.out.size) HG.out HL.out hn hnc).mono ?_
    rintro e v3 ⟨he, hx3⟩
    unfold gvRet at he
    rw [HN.out.o2, HN.out.e2, HN.out.v2] at he
    subst he
    have HB3 := Lib.hid (HB2.out.trans (hx3.mono HB2.out.size))
    clear hx3
    go_wp2_with fail
    refine (spec_GetVar_any _ n _ zs (P3 : Int) _ ((HR.out.below (Nat.le_refl _) HB3.out).more HB3.out.size) HG.out HL.out hn hnc).mono ?_
    rintro e v4 ⟨he, hx4⟩
    unfold gvRet at he
    rw [HN.out.o3, HN.out.e3, HN.out.v3] at he
    subst he
    have HB4 := Lib.hid (HB3.out.trans (hx4.mono HB3.out.size))
    clear hx4
    have hown : Own (v4.alloc (.cells #[] 5)) v4.heap.size (some ⟨v4.heap.size, 0, none⟩) 0 0 [] := World.ownsRow_lit v4 #[] 0 (Nat.le_refl _) (by decide) rfl
    have hbw : Below v4.heap.size v4 (v4.alloc (.cells #[] 5)) := (Below.refl _ _).alloc (Nat.le_refl _) _
    have HOW := Lib.hid hown
    have HBW := Lib.hid hbw
    have HR4 := Lib.hid (HRX.out (v4.alloc (.cells #[] 5)))
    clear hown hbw
    go_wp2_with (at_builtin; refine append_src rfl _ _ rfl rfl rfl HOW.out HR4.out (fun h => nomatch h) HLD.out (by omega) (by omega) (by simp) ?_)
    intro A5 c5 v5 ho5 hx5
    have HB5 := Lib.hid (HB4.out.trans ((HBW.out.trans hx5).mono HB4.out.size))
    have HO5 := Lib.hid (ho5.more HB4.out.size)
    clear ho5 hx5
    go_wp2_with fail
    refine (spec_yes A5 _ c5 _ G S _ (own_none HO5.out) HO5.out.rd HGD.out HLD.out (by omega) h1 h2 h3 h4).mono ?_
    rintro e v6 ⟨A6, n6, c6, rfl, ho6, hx6⟩
    have HB6 := Lib.hid (HB5.out.trans (hx6.mono HB5.out.size))
    have HO5' := Lib.hid (HO5.out.below (Nat.le_refl _) hx6)
    have hl6 := ho6.len
    have hp6 : 0 < (snB G S []).length := by unfold snB shd s4; simp
    obtain ⟨g, rfl, hg1, hg2⟩ := ho6.head (by omega)
    have hcv1 := rd_conv (c := c6) ho6.rd n6 (by omega) rfl
    have hcv2 := rd_conv (c := n) (HR.out.below (Nat.le_refl _) HB6.out) n (by rw [HL.out]; exact Nat.le_refl _) rfl
    rw [List.take_of_length_le (by omega)] at hcv1
    rw [List.take_of_length_le (by rw [HL.out]; exact Nat.le_refl _)] at hcv2
    obtain ⟨f3, f4⟩ := str_eq H7.out
    generalize strOfNums (snB G S []) = Y1 at *
    generalize strOfNums zs = Y2 at *
    clear hl6 hp6 ho6 hx6
    go_wp2_with fail
    refine bodyPost_ret (v := .tuple #[.int .i64 G, .int .i64 S, .slice A5 0 c5, .int .i64 0]) (by simp [results, Tryd.results14, go_sem]) rfl ⟨A5, c5, rfl, by simpa using HO5'.out, HB6.out⟩
  · have hcE' : P4 < c := by omega
    clear hcE
    go_enter Tryd.func14, Tryd.ntmps14
    go_wp2_with fail
    refine (spec_GetVar_any _ n _ zs 4 _ ((HR.out.below (Nat.le_refl _) HB0.out).more HB0.out.size) HG.out HL.out hn hnc).mono ?_
    rintro e v1 ⟨he, hx1⟩
    unfold gvRet at he
    rw [HN.out.o0, HN.out.e0, HN.out.v0] at he
    subst he
    have HB1 := Lib.hid (HB0.out.trans (hx1.mono HB0.out.size))
    clear hx1
    go_wp2_with fail
    refine (spec_GetVar_any _ n _ zs (P1 : Int) _ ((HR.out.below (Nat.le_refl _) HB1.out).more HB1.out.size) HG.out HL.out hn hnc).mono ?_
    rintro e v2 ⟨he, hx2⟩
    unfold gvRet at he
    rw [HN.out.o1, HN.out.e1, HN.out.v1] at he
    subst he
    have HB2 := Lib.hid (HB1.out.trans (hx2.mono HB1.out.size))
    clear hx2
    go_wp2_with fail
    refine (spec_GetVar_any _ n _ zs (P2 : Int) _ ((HR.out.below (Nat.le_refl _) HB2.out).more HB2.out.size) HG.out HL.out hn hnc).mono ?_
    rintro e v3 ⟨he, hx3⟩
    unfold gvRet at he
    rw [HN.out.o2, HN.out.e2, HN.out.v2] at he
    subst he
    have HB3 := Lib.hid (HB2.out.trans (hx3.mono HB2.out.size))
    clear hx3
    go_wp2_with fail
    refine (spec_GetVar_any _ n _ zs (P3 : Int) _ ((HR.out.below (Nat.le_refl _) HB3.out).more HB3.out.size) HG.out HL.out hn hnc).mono ?_
    rintro e v4 ⟨he, hx4⟩
    unfold gvRet at he
    rw [HN.out.o3, HN.out.e3, HN.out.v3] at he
    subst he
    have HB4 := Lib.hid (HB3.out.trans (hx4.mono HB3.out.size))
    clear hx4
    have hown : Own (v4.alloc (.cells #[] 5)) v4.heap.size (some ⟨v4.heap.size, 0, none⟩) 0 0 [] := World.ownsRow_lit v4 #[] 0 (Nat.le_refl _) (by decide) rfl
    have hbw : Below v4.heap.size v4 (v4.alloc (.cells #[] 5)) := (Below.refl _ _).alloc (Nat.le_refl _) _
    have HOW := Lib.hid hown
    have HBW := Lib.hid hbw
    have HR4 := Lib.hid (((HRD.out.below (Nat.le_refl _) HB4.out).more HB4.out.size).below (Nat.le_refl _) hbw)
    clear hown hbw
    go_wp2_with (at_builtin; refine append_src rfl _ _ rfl rfl rfl HOW.out HR4.out (fun h => nomatch h) HLD.out (by omega) (by omega) (by simp) ?_)
    intro A5 c5 v5 ho5 hx5
    have HB5 := Lib.hid (HB4.out.trans ((HBW.out.trans hx5).mono HB4.out.size))
    have HO5 := Lib.hid (ho5.more HB4.out.size)
    clear ho5 hx5
    go_wp2_with fail
    refine (spec_yes A5 _ c5 _ G S _ (own_none HO5.out) HO5.out.rd HGD.out HLD.out (by omega) h1 h2 h3 h4).mono ?_
    rintro e v6 ⟨A6, n6, c6, rfl, ho6, hx6⟩
    have HB6 := Lib.hid (HB5.out.trans (hx6.mono HB5.out.size))
    have HO5' := Lib.hid (HO5.out.below (Nat.le_refl _) hx6)
    have hl6 := ho6.len
    have hp6 : 0 < (snB G S dat).length := by unfold snB shd s4; simp
    obtain ⟨g, rfl, hg1, hg2⟩ := ho6.head (by omega)
    have hcv1 := rd_conv (c := c6) ho6.rd n6 (by omega) rfl
    have hcv2 := rd_conv (c := c) (HR.out.below (Nat.le_refl _) HB6.out) n (by rw [HL.out]; exact Nat.le_refl _) rfl
    rw [List.take_of_length_le (by omega)] at hcv1
    rw [List.take_of_length_le (by rw [HL.out]; exact Nat.le_refl _)] at hcv2
    obtain ⟨f3, f4⟩ := str_eq H7.out
    generalize strOfNums (snB G S dat) = Y1 at *
    generalize strOfNums zs = Y2 at *
    clear hl6 hp6 ho6 hx6
    go_wp2_with fail
    refine bodyPost_ret (v := .tuple #[.int .i64 G, .int .i64 S, .slice A5 (n - P4) c5, .int .i64 0]) (by simp [results, Tryd.results14, go_sem]) rfl ⟨A5, c5, by rw [H5.out], by rw [H5.out]; exact HO5'.out, HB6.out⟩

theorem spec_SnapRead_any (A : Option Addr) (n c : Nat) (zs : List Int) (w : World) (hr : Rd w w.heap.size A zs) (hg : Rng zs) (hl : zs.length = n) (hn : n ≤ 1099511627776) (hnc : n ≤ c) :
    Calls Tryd.prog 14 #[.slice A n c] w fun e w' => ∃ A' n' c', e = .returned (.tuple #[.int .i64 (snG zs), .int .i64 (snS zs), .slice A' n' c', .int .i64 (snC zs : Nat)]) ∧ Own w' w.heap.size A' n' c' (snD zs) ∧ Below w.heap.size w w' := by
  have nil : ∀ {k : Nat}, snC zs = k → k ≠ 0 → (Calls Tryd.prog 14 #[.slice A n c] w fun e w' => e = .returned (.tuple #[.int .i64 0, .int .i64 0, .slice none 0 0, .int .i64 (k : Nat)]) ∧ Below w.heap.size w w') →
      Calls Tryd.prog 14 #[.slice A n c] w fun e w' => ∃ A' n' c', e = .returned (.tuple #[.int .i64 (snG zs), .int .i64 (snS zs), .slice A' n' c', .int .i64 (snC zs : Nat)]) ∧ Own w' w.heap.size A' n' c' (snD zs) ∧ Below w.heap.size w w' := by
    intro k hk h0 hc
    obtain ⟨e1, e2, e3⟩ := sn_bad (by rw [hk]; exact h0)
    rw [hk, e1, e2, e3]
    refine hc.mono ?_
    rintro e w' ⟨rfl, hb⟩
    exact ⟨none, 0, 0, rfl, own_nil _ _, hb⟩
  rcases h1 : isS zs with _ | _
  · exact nil (snC_1 h1) (by omega) (s_1 A n c zs w hr hg hl hn hnc h1)
  rcases h2 : ok4 zs with _ | _
  · exact nil (snC_2 h1 h2) (by omega) (s_2 A n c zs w hr hg hl hn hnc h1 h2)
  obtain ⟨P1, P2, P3, P4, G, S, Z, C, hN, p0, p1, p2, p3, p4, p5, b1, b2, b3, b4, e1, e2, e3, e4, e5, e6, e7, e8⟩ := snums_of h2
  rw [hl] at p4
  by_cases h3 : G < 1 ∨ 1000000000 < G ∨ S < 1 ∨ 1000000000 < S ∨ (Z : Int) ≠ (n : Int) - (P4 : Int) ∨ 150000 < Z
  · exact nil (snC_3 h1 h2 (by rw [e1, e2, e3, e5, hl]; omega)) (by omega) (s_3 A n c zs P1 P2 P3 P4 G S Z C w hr hg hl hn hnc h1 hN p0 p1 p2 p3 p4 b1 b2 b3 b4 h3)
  have hz : num zs 2 = (zs.length : Int) - pos zs 4 := by rw [e3, e5, hl]; omega
  have hag := sn_again hg h1 h2 hz
  rw [e1, e2, e7, Int.toNat_natCast, Int.toNat_natCast] at hag
  by_cases h4 : num zs 3 = (crcN (sHead zs ++ sData zs) : Int)
  · have hc := snC_0 h1 h2 (by rw [e1, e2, e3, e5, hl]; omega) h4
    obtain ⟨q1, q2, q3⟩ := sn_good hc
    rw [hc, q1, q2, q3, e1, e2, e7]
    refine (s_0 A n c zs P1 P2 P3 P4 G S Z C w hr hg hl hn hnc h1 hN p0 p1 p2 p3 p4 b1 b2 b3 b4 (by omega) (by omega) (by omega) (by omega) (by omega) (by omega) (hag.2 (by rw [e7] at h4; exact h4))).mono ?_
    rintro e w' ⟨A', c', rfl, ho, hb⟩
    exact ⟨A', Z, c', rfl, ho, hb⟩
  · refine nil (snC_4 h1 h2 (by rw [e1, e2, e3, e5, hl]; omega) h4) (by omega) (s_4 A n c zs P1 P2 P3 P4 G S Z C w hr hg hl hn hnc h1 hN p0 p1 p2 p3 p4 b1 b2 b3 b4 (by omega) (by omega) (by omega) (by omega) (by omega) (by omega) (fun h => h4 ?_))
    rw [e7]; exact hag.1 h
end Go.Proofs.YtmlodfceepokoaaDoor.Snap
