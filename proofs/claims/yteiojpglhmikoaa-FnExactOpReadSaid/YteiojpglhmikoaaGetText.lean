/- Contracts of the decoding of strings, in the model: the same function as the program's. -/
import Derived.Test.YteiojpglhmikoaaGetTextImpl
import Derived.Test.YteiojpglhmikoaaGetSpec
namespace Go.Proofs.Yteiojpglhmikoaa.Var
open Go.RowKit Go.Proofs.Yteiojpglhmikoaa.Bytes
set_option linter.unusedVariables false
set_option maxRecDepth 100000 in
set_option maxHeartbeats 1600000 in
theorem spec_GetText_any (A : Option Addr) (n c : Nat) (zs : List Int) (a : Int) (w : World) (hr : Rd w w.heap.size A zs) (hg : Rng zs) (hl : zs.length = n) (hn : n ≤ 1099511627776) (hnc : n ≤ c) :
    Calls Try.prog 104 #[.slice A n c, .int .i64 a] w fun e w' => e = gtRet zs a ∧ Below w.heap.size w w' := by
  have HL := Lib.hid hl
  cases ho : gvOk zs a
  · have hN := Lib.hid (gv_no ho)
    have hfin := Lib.hid (gtRet_no (gtOk_no ho))
    have HO := Lib.hid ho
    clear ho hl
    go_enter Try.func104, Try.ntmps104
    go_wp2_with fail
    refine (spec_GetVar_any _ n _ zs a _ hr hg HL.out hn hnc).mono ?_
    rintro e w1 ⟨he, hb⟩
    unfold gvRet at he
    rw [hN.out.1, hN.out.2, HO.out] at he
    subst he
    go_wp2_with fail
    go_ret3
    exact ⟨hfin.out, hb⟩
  · obtain ⟨V, E, hV, hE, hEl, hE0⟩ := gv_nat ho
    rw [hl] at hEl
    by_cases hsz : V ≤ 4000 ∧ E + V ≤ n
    · have hfin := Lib.hid (gtRet_yes ho hV hE hsz.1 (by rw [hl]; exact hsz.2))
      obtain ⟨hs1, hs2⟩ := hsz
      have HO := Lib.hid ho
      have HV := Lib.hid hV
      have HE := Lib.hid hE
      clear ho hV hE hl
      obtain ⟨b, o, rfl, hB, hcs⟩ := hr (by rw [HL.out]; omega)
      by_cases hcE : E = c
      · obtain rfl : V = 0 := by omega
        subst hcE
        have hz := fun W : World => zero_run W ⟨b, o, none⟩ 0
        have hfin2 : Ending.returned (.tuple #[.string (strOfNums []), .int .i64 (E : Int), .bool true]) = gtRet zs a := by rw [← hfin.out]; simp
        have HF2 := Lib.hid hfin2
        clear hfin2
        go_enter Try.func104, Try.ntmps104
        go_wp2_with fail
        refine (spec_GetVar_any _ n _ zs a _ hr hg HL.out hn hnc).mono ?_
        rintro e w1 ⟨he, hb⟩
        unfold gvRet at he
        rw [HV.out, HE.out, HO.out] at he
        subst he
        go_wp2_with fail
        go_ret3
        exact ⟨HF2.out, hb⟩
      · have hcE' : E < c := by omega
        have hcv := fun (w1 : World) (hb : Below w.heap.size w w1) => text_run w1 b o n c E V zs (some ⟨b, o, none⟩) rfl (fun k hk => (hb.cell (p := ⟨b, o + k, none⟩) hB).trans (hcs k hk)) (by rw [HL.out]; exact hs2) V (c - E) rfl
        have HCV := Lib.hid hcv
        clear hcE hcv
        go_enter Try.func104, Try.ntmps104
        go_wp2_with fail
        refine (spec_GetVar_any _ n _ zs a _ hr hg HL.out hn hnc).mono ?_
        rintro e w1 ⟨he, hb⟩
        have hcv1 := HCV.out _ hb
        unfold gvRet at he
        rw [HV.out, HE.out, HO.out] at he
        subst he
        go_wp2_with fail
        go_ret3
        exact ⟨hfin.out, hb⟩
    · have hfin := Lib.hid (gtRet_no (gtOk_no2 hV hE (by omega)))
      have HO := Lib.hid ho
      have HV := Lib.hid hV
      have HE := Lib.hid hE
      clear ho hV hE hl
      by_cases h4 : V ≤ 4000
      all_goals
        go_enter Try.func104, Try.ntmps104
        go_wp2_with fail
        refine (spec_GetVar_any _ n _ zs a _ hr hg HL.out hn hnc).mono ?_
        rintro e w1 ⟨he, hb⟩
        unfold gvRet at he
        rw [HV.out, HE.out, HO.out] at he
        subst he
        go_wp2_with fail
        go_ret3
        exact ⟨hfin.out, hb⟩
end Go.Proofs.Yteiojpglhmikoaa.Var

