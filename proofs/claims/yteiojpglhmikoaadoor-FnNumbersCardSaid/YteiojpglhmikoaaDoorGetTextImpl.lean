/- Contracts of the decoding of strings, in the program: a plain function of the bytes and the offset. -/
import Derived.Test.YteiojpglhmikoaaDoorGetVar
import Derived.Test.YteiojpglhmikoaaDoorGtP
import Derived.Laws.BytesArg
namespace Go.Proofs.YteiojpglhmikoaaDoor.Var
open Go.RowKit Go.Proofs.YteiojpglhmikoaaDoor.Bytes
set_option linter.unusedVariables false

theorem zero_run (w : World) (ad : Addr) (c' : Nat) : (convert 22 9 (.slice (some ad) 0 c')).run Tryd.prog w = .ok (.string (strOfNums [])) w := by
  have hl : (loadCells ad 0).run Tryd.prog w = .ok #[] w := by
    have := run_loadCells_list (P := Tryd.prog) w ad [] (fun j v hj => by simp at hj)
    simpa using this
  rw [run_convert_bytes_string w 22 9 5 _ 0 c' Tryd.underlying22 Tryd.underlying5 Tryd.underlying9, run_bytesToString w ad 0 c' [] hl]
  rfl
theorem text_run (w : World) (b o n c E V : Nat) (zs : List Int) (A : Option Addr) (hA : A = some ⟨b, o, none⟩) (hr : ∀ k, k < zs.length → w.cell? ⟨b, o + k, none⟩ = some (.int .u8 (zs.getD k 0))) (h : E + V ≤ zs.length) (l c' : Nat) (hl : l = V) :
    (convert 22 9 (.slice (some ⟨b, o + E, none⟩) l c')).run Tryd.prog w = .ok (.string (strOfNums ((zs.drop E).take V))) w := by
  subst hl
  have hlen : ((zs.drop E).take l).length = l := by rw [List.length_take, List.length_drop]; omega
  exact run_convert_bytes_arg w 22 5 Tryd.underlying22 Tryd.underlying5 b (o + E) l c' _ hlen (fun i hi => by
    rw [Nat.add_assoc, hr (E + i) (by omega)]
    simp [List.getD, hi]) 9 Tryd.underlying9

theorem nil_run (w : World) : (convert 22 9 (.slice none 0 0)).run Tryd.prog w = .ok (.string ⟨#[]⟩) w := by
  rw [run_convert_bytes_string w 22 9 5 _ 0 0 Tryd.underlying22 Tryd.underlying5 Tryd.underlying9]
  rfl

set_option maxRecDepth 100000 in
set_option maxHeartbeats 1600000 in
theorem textAt_any (A : Option Addr) (n c : Nat) (zs : List Int) (a : Int) (w : World) (hr : Rd w w.heap.size A zs) (hg : Rng zs) (hl : zs.length = n) (hn : n ≤ 1099511627776) (hnc : n ≤ c) :
    Calls Tryd.prog 34 #[.slice A n c, .int .i64 a, .int .i64 4000] w fun e w' => w = w' ∧ ∃ A' n' c', e = .returned (.tuple #[.slice A' n' c', .int .i64 (gtE zs a), .bool (gtOk zs a)]) ∧ ∀ w1 : World, Below w.heap.size w w1 → (convert 22 9 (.slice A' n' c')).run Tryd.prog w1 = .ok (.string (gtS zs a)) w1 := by
  have HL := Lib.hid hl
  cases ho : gvOk zs a
  · have hN := Lib.hid (gv_no ho)
    have hfin := Lib.hid (gtOk_no ho)
    have HO := Lib.hid ho
    clear ho hl
    go_enter Tryd.func34, Tryd.ntmps34
    go_wp2_with fail
    refine (impl_GetVar_any _ n _ zs a _ hr hg HL.out hn).mono ?_
    rintro e w1 ⟨he, rfl⟩
    have hb := Below.refl w.heap.size w
    unfold gvRet at he
    rw [hN.out.1, hN.out.2, HO.out] at he
    subst he
    go_wp2_with fail
    go_ret3
    refine ⟨rfl, none, 0, 0, ?_, fun w1 _ => ?_⟩
    · rw [hfin.out, (gt_no hfin.out).1]; rfl
    · rw [(gt_no hfin.out).2]; exact nil_run w1
  · obtain ⟨V, E, hV, hE, hEl, hE0⟩ := gv_nat ho
    rw [hl] at hEl
    by_cases hsz : V ≤ 4000 ∧ E + V ≤ n
    · have hfin := Lib.hid (gt_yes ho hV hE hsz.1 (by rw [hl]; exact hsz.2))
      obtain ⟨hs1, hs2⟩ := hsz
      have HO := Lib.hid ho
      have HV := Lib.hid hV
      have HE := Lib.hid hE
      clear ho hV hE hl
      obtain ⟨b, o, rfl, hB, hcs⟩ := hr (by rw [HL.out]; omega)
      by_cases hcE : E = c
      · obtain rfl : V = 0 := by omega
        subst hcE
        have hz := fun W : World => zero_run W ⟨b, o, none⟩ 0
        go_enter Tryd.func34, Tryd.ntmps34
        go_wp2_with fail
        refine (impl_GetVar_any _ n _ zs a _ hr hg HL.out hn).mono ?_
        rintro e w1 ⟨he, rfl⟩
        have hb := Below.refl w.heap.size w
        unfold gvRet at he
        rw [HV.out, HE.out, HO.out] at he
        subst he
        go_wp2_with fail
        go_ret3
        refine ⟨rfl, some ⟨b, o, none⟩, 0, 0, ?_, fun w1 _ => ?_⟩
        · rw [show gtE zs a = (E : Int) by rw [hfin.out.2.1]; simp, hfin.out.1]; rfl
        · rw [show gtS zs a = strOfNums [] by rw [hfin.out.2.2]; simp]; exact hz w1
      · have hcE' : E < c := by omega
        have hcv := fun (w1 : World) (hb : Below w.heap.size w w1) => text_run w1 b o n c E V zs (some ⟨b, o, none⟩) rfl (fun k hk => (hb.cell (p := ⟨b, o + k, none⟩) hB).trans (hcs k hk)) (by rw [HL.out]; exact hs2) (E + V - E) (c - E) (by omega)
        have HCV := Lib.hid hcv
        clear hcE hcv
        go_enter Tryd.func34, Tryd.ntmps34
        go_wp2_with fail
        refine (impl_GetVar_any _ n _ zs a _ hr hg HL.out hn).mono ?_
        rintro e w1 ⟨he, rfl⟩
        have hb := Below.refl w.heap.size w
        unfold gvRet at he
        rw [HV.out, HE.out, HO.out] at he
        subst he
        go_wp2_with fail
        go_ret3
        refine ⟨rfl, some ⟨b, o + E, none⟩, E + V - E, c - E, ?_, fun w1 hb1 => ?_⟩
        · rw [hfin.out.1, hfin.out.2.1]; rfl
        · rw [hfin.out.2.2]; exact HCV.out w1 hb1
    · have hfin := Lib.hid (gtOk_no2 hV hE (by omega))
      have HO := Lib.hid ho
      have HV := Lib.hid hV
      have HE := Lib.hid hE
      clear ho hV hE hl
      by_cases h4 : V ≤ 4000
      all_goals
        go_enter Tryd.func34, Tryd.ntmps34
        go_wp2_with fail
        refine (impl_GetVar_any _ n _ zs a _ hr hg HL.out hn).mono ?_
        rintro e w1 ⟨he, rfl⟩
        have hb := Below.refl w.heap.size w
        unfold gvRet at he
        rw [HV.out, HE.out, HO.out] at he
        subst he
        go_wp2_with fail
        go_ret3
        refine ⟨rfl, none, 0, 0, ?_, fun w1 _ => ?_⟩
        · rw [hfin.out, (gt_no hfin.out).1]; rfl
        · rw [(gt_no hfin.out).2]; exact nil_run w1


set_option maxRecDepth 100000 in
theorem impl_GetText_any (A : Option Addr) (n c : Nat) (zs : List Int) (a : Int) (w : World) (hr : Rd w w.heap.size A zs) (hg : Rng zs) (hl : zs.length = n) (hn : n ≤ 1099511627776) (hnc : n ≤ c) :
    Calls Tryd.prog 15 #[.slice A n c, .int .i64 a] w fun e w' => e = gtRet zs a ∧ w = w' := by
  have HL := Lib.hid hl
  clear hl
  go_enter Tryd.func15, Tryd.ntmps15
  go_wp2_with fail
  refine (textAt_any _ n _ zs a _ hr hg HL.out hn hnc).mono ?_
  rintro e w1 ⟨rfl, A', n', c', rfl, hcv⟩
  have hcv1 := hcv w (Below.refl w.heap.size w)
  clear hcv hr
  go_wp2_with fail
  go_ret3
  exact ⟨rfl, rfl⟩

end Go.Proofs.YteiojpglhmikoaaDoor.Var

