/- Contracts of SgrText, in the program (one long sum of strings) and in the model (string after string): both answer the same bytes; at every attribute. -/
import Derived.Test.YtmmdggmnjmoebabDoorAttrB
import Derived.Test.YtmmdggmnjmoebabDoorNumCore
import Derived.Deep.QuietTactic
import Derived.BigQuiet
import Derived.IntWalk
import Derived.Outline
namespace Go.Proofs.YtmmdggmnjmoebabDoor.Sgt
open Go.RowKit Go.Proofs.YtmmdggmnjmoebabDoor.Attr Go.Proofs.YtmmdggmnjmoebabDoor.Num
set_option linter.unusedVariables false
set_option linter.unusedSimpArgs false
def nt (z : Int) : ByteArray := dg z.toNat
def pif (b : Bool) (z : Int) : ByteArray := if b then ⟨#[59]⟩ ++ nt z else ⟨#[]⟩
theorem nt_len {z : Int} (h : z < 100) : (nt z).size ≤ 2 := dg_len 2 _ (by omega) (by omega)
theorem pif_len {z : Int} (b : Bool) (h : z < 100) : (pif b z).size ≤ 3 := by
  have := nt_len h
  have h1 : (⟨#[59]⟩ : ByteArray).size = 1 := rfl
  have h0 : (⟨#[]⟩ : ByteArray).size = 0 := rfl
  unfold pif; split
  · rw [ByteArray.size_append]; omega
  · omega

set_option maxRecDepth 100000 in
set_option maxHeartbeats 800000 in
theorem numText_small (z : Int) (h0 : 0 ≤ z) (h1 : z < 100) (w : World) :
    Calls Tryd.prog 10 #[.int .i64 z] w fun e w' => e = .returned (.string (nt z)) ∧ w' = w := by
  obtain ⟨m, rfl⟩ := Int.eq_ofNat_of_zero_le h0
  have hm : m < 100 := by omega
  go_enter Tryd.func10, Tryd.ntmps10
  go_wp2_with fail
  refine (isNumber_yes _ _ (by omega) (by omega)).mono ?_
  rintro e w' ⟨rfl, rfl⟩
  go_wp2_with fail
  refine (Tryd.strconv_Itoa_small m hm _).mono ?_
  rintro e w' ⟨rfl, rfl⟩
  go_wp2_with fail
  go_ret
  exact ⟨rfl, rfl⟩

set_option maxRecDepth 100000 in
set_option maxHeartbeats 800000 in
theorem parameterIf_any (b : Bool) (z : Int) (h0 : 0 ≤ z) (h1 : z < 100) (w : World) :
    Calls Tryd.prog 11 #[.bool b, .int .i64 z] w fun e w' => e = .returned (.string (pif b z)) ∧ w' = w := by
  cases b
  · go_enter Tryd.func11, Tryd.ntmps11
    go_wp2_with fail
    go_ret
    exact ⟨rfl, rfl⟩
  · have hadd := fun W : World => run_string_add_sum (P := Tryd.prog) W ⟨#[59]⟩ (nt z) (by have := nt_len h1; have h1 : (⟨#[59]⟩ : ByteArray).size = 1 := rfl; omega)
    go_enter Tryd.func11, Tryd.ntmps11
    go_wp2_with fail
    refine (numText_small z h0 h1 _).mono ?_
    rintro e w' ⟨rfl, rfl⟩
    go_wp2_with fail
    go_ret
    exact ⟨rfl, rfl⟩

def sgT (fg bg : Int) (b u t : Bool) : ByteArray :=
  ⟨#[27, 91]⟩ ++ nt 0 ++ pif b 1 ++ pif u 4 ++ pif t 7 ++ pif (fg != 0) (29 + fg) ++ pif (bg != 0) (39 + bg) ++ ⟨#[109]⟩
def sgTV (fg bg : Int) (b u t : Bool) : ByteArray := if okA fg bg then sgT fg bg b u t else ⟨#[]⟩
theorem sgTV_no {fg bg : Int} (b u t : Bool) (h : okA fg bg = false) : sgTV fg bg b u t = ⟨#[]⟩ := by unfold sgTV; rw [h]; rfl
theorem sgTV_yes {fg bg : Int} (b u t : Bool) (h : okA fg bg = true) : sgTV fg bg b u t = sgT fg bg b u t := by unfold sgTV; rw [h]; rfl

set_option maxRecDepth 100000 in
set_option maxHeartbeats 1600000 in
theorem impl_SgrText_any (fg bg : Int) (b u t : Bool) (w : World) :
    Calls Tryd.prog 6 #[.agg #[.int .i64 fg, .int .i64 bg, .bool b, .bool u, .bool t]] w fun e w' => e = .returned (.string (sgTV fg bg b u t)) ∧ Below w.heap.size w w' := by
  have HB0 := Lib.hid ((Below.refl w.heap.size w).alloc (Nat.le_refl _) (.cells #[.int .i64 fg, .int .i64 bg, .bool b, .bool u, .bool t] 25))
  cases hv : okA fg bg
  · have HN := Lib.hid (sgTV_no b u t hv)
    have HV := Lib.hid hv
    clear hv
    go_enter Tryd.func6, Tryd.ntmps6
    go_wp2_with fail
    refine (impl_AttrOk_any fg bg b u t _).mono ?_
    rintro e v1 ⟨rfl, hb1⟩
    rw [HV.out]
    have HB1 := Lib.hid (HB0.out.trans (hb1.mono (by simp)))
    clear hb1
    go_wp2_with fail
    go_ret
    exact ⟨ret_str HN.out.symm, HB1.out⟩
  · have HN := Lib.hid (sgTV_yes b u t hv)
    have HV := Lib.hid hv
    obtain ⟨h1, h2, h3, h4⟩ := okA_t hv
    clear hv
    obtain ⟨cf, hcf⟩ : ∃ cf, (fg != 0) = cf := ⟨_, rfl⟩
    obtain ⟨cg, hcg⟩ : ∃ cg, (bg != 0) = cg := ⟨_, rfl⟩
    have HT := Lib.hid (show sgT fg bg b u t = ⟨#[27, 91]⟩ ++ nt 0 ++ pif b 1 ++ pif u 4 ++ pif t 7 ++ pif cf (29 + fg) ++ pif cg (39 + bg) ++ ⟨#[109]⟩ by unfold sgT; rw [hcf, hcg])
    have hcf' : (!(fg == 0)) = cf := hcf
    have hcg' : (!(bg == 0)) = cg := hcg
    have z0 : (⟨#[27, 91]⟩ : ByteArray).size = 2 := rfl
    have z9 : (⟨#[109]⟩ : ByteArray).size = 1 := rfl
    have l0 := nt_len (z := 0) (by omega)
    have l1 := pif_len (z := 1) b (by omega)
    have l2 := pif_len (z := 4) u (by omega)
    have l3 := pif_len (z := 7) t (by omega)
    have l4 := pif_len (z := 29 + fg) cf (by omega)
    have l5 := pif_len (z := 39 + bg) cg (by omega)
    have s0 : (⟨#[27, 91]⟩ ++ nt 0 : ByteArray).size ≤ 4 := by rw [ByteArray.size_append]; omega
    have s1 : (⟨#[27, 91]⟩ ++ nt 0 ++ pif b 1 : ByteArray).size ≤ 7 := by rw [ByteArray.size_append]; omega
    have s2 : (⟨#[27, 91]⟩ ++ nt 0 ++ pif b 1 ++ pif u 4 : ByteArray).size ≤ 10 := by rw [ByteArray.size_append]; omega
    have s3 : (⟨#[27, 91]⟩ ++ nt 0 ++ pif b 1 ++ pif u 4 ++ pif t 7 : ByteArray).size ≤ 13 := by rw [ByteArray.size_append]; omega
    have s4 : (⟨#[27, 91]⟩ ++ nt 0 ++ pif b 1 ++ pif u 4 ++ pif t 7 ++ pif cf (29 + fg) : ByteArray).size ≤ 16 := by rw [ByteArray.size_append]; omega
    have s5 : (⟨#[27, 91]⟩ ++ nt 0 ++ pif b 1 ++ pif u 4 ++ pif t 7 ++ pif cf (29 + fg) ++ pif cg (39 + bg) : ByteArray).size ≤ 19 := by rw [ByteArray.size_append]; omega
    have a0 := fun W : World => run_string_add_sum (P := Tryd.prog) W ⟨#[27, 91]⟩ (nt 0) (by omega)
    have a1 := fun W : World => run_string_add_sum (P := Tryd.prog) W (⟨#[27, 91]⟩ ++ nt 0) (pif b 1) (by omega)
    have a2 := fun W : World => run_string_add_sum (P := Tryd.prog) W (⟨#[27, 91]⟩ ++ nt 0 ++ pif b 1) (pif u 4) (by omega)
    have a3 := fun W : World => run_string_add_sum (P := Tryd.prog) W (⟨#[27, 91]⟩ ++ nt 0 ++ pif b 1 ++ pif u 4) (pif t 7) (by omega)
    have a4 := fun W : World => run_string_add_sum (P := Tryd.prog) W (⟨#[27, 91]⟩ ++ nt 0 ++ pif b 1 ++ pif u 4 ++ pif t 7) (pif cf (29 + fg)) (by omega)
    have a5 := fun W : World => run_string_add_sum (P := Tryd.prog) W (⟨#[27, 91]⟩ ++ nt 0 ++ pif b 1 ++ pif u 4 ++ pif t 7 ++ pif cf (29 + fg)) (pif cg (39 + bg)) (by omega)
    have a6 := fun W : World => run_string_add_sum (P := Tryd.prog) W (⟨#[27, 91]⟩ ++ nt 0 ++ pif b 1 ++ pif u 4 ++ pif t 7 ++ pif cf (29 + fg) ++ pif cg (39 + bg)) ⟨#[109]⟩ (by omega)
    have w1 : IntKind.i64.wrap (29 + fg) = 29 + fg := IntWalk.i64_in _ (by omega)
    have w2 : IntKind.i64.wrap (39 + bg) = 39 + bg := IntWalk.i64_in _ (by omega)
    clear z0 z9 l0 l1 l2 l3 l4 l5 s0 s1 s2 s3 s4 s5
    go_enter Tryd.func6, Tryd.ntmps6
    go_wp2_with fail
    refine (impl_AttrOk_any fg bg b u t _).mono ?_
    rintro e v1 ⟨rfl, hb1⟩
    rw [HV.out]
    have HB1 := Lib.hid (HB0.out.trans (hb1.mono (by simp)))
    obtain ⟨hc, hf⟩ := Attr.bcell hb1
    have hz : w.heap.size < v1.heap.size := by have := hb1.size; simp at this; omega
    clear hb1
    go_wp2_with fail
    go_quiet ((first | (go_at_call 11; exact Calls.quiet_of_same (parameterIf_any _ _ (by omega) (by omega) _)) | (go_at_call 10; exact Calls.quiet_of_same (numText_small _ (by omega) (by omega) _))))
    go_wp2_with fail
    go_ret
    exact ⟨ret_str (by rw [HN.out, HT.out]), below_drewN HB1.out nq⟩

theorem nt_two {z : Int} (h0 : 10 ≤ z) (h1 : z < 100) : (nt z).size = 2 := by
  unfold nt
  rw [dg_big (by omega), dg_small (by omega), ByteArray.size_append, strOfNums_size, strOfNums_size]; rfl
theorem nt_zero : nt 0 = ⟨#[48]⟩ := by unfold nt; rw [dg_small (by decide)]; rfl
theorem pif_1 : pif true 1 = ⟨#[59, 49]⟩ := by unfold pif nt; rw [if_pos rfl, dg_small (by decide)]; rfl
theorem pif_4 : pif true 4 = ⟨#[59, 52]⟩ := by unfold pif nt; rw [if_pos rfl, dg_small (by decide)]; rfl
theorem pif_7 : pif true 7 = ⟨#[59, 55]⟩ := by unfold pif nt; rw [if_pos rfl, dg_small (by decide)]; rfl
theorem pif_f (z : Int) : pif false z = ⟨#[]⟩ := rfl
theorem pif_t (z : Int) : pif true z = ⟨#[59]⟩ ++ nt z := rfl
theorem app_nil (a : ByteArray) : a ++ (⟨#[]⟩ : ByteArray) = a := by apply ByteArray.ext; simp [ByteArray.data_append]
theorem z00 : ((0 : Int) != 0) = false := rfl
theorem lit_head : (⟨#[27, 91]⟩ ++ ⟨#[48]⟩ : ByteArray) = ⟨#[27, 91, 48]⟩ := rfl

set_option maxRecDepth 100000 in
set_option maxHeartbeats 3200000 in
theorem spec_SgrText_any (fg bg : Int) (b u t : Bool) (w : World) :
    Calls Tryd.prog 4 #[.agg #[.int .i64 fg, .int .i64 bg, .bool b, .bool u, .bool t]] w fun e w' => e = .returned (.string (sgTV fg bg b u t)) ∧ Below w.heap.size w w' := by
  have HB0 := Lib.hid ((Below.refl w.heap.size w).alloc (Nat.le_refl _) (.cells #[.int .i64 fg, .int .i64 bg, .bool b, .bool u, .bool t] 25))
  cases hv : okA fg bg
  · have HN := Lib.hid (sgTV_no b u t hv)
    have HV := Lib.hid hv
    clear hv
    go_enter Tryd.func4, Tryd.ntmps4
    go_wp2_with fail
    refine (spec_AttrOk_any fg bg b u t _).mono ?_
    rintro e v1 ⟨rfl, hb1⟩
    rw [HV.out]
    have HB1 := Lib.hid (HB0.out.trans (hb1.mono (by simp)))
    clear hb1
    go_wp2_with fail
    go_ret
    exact ⟨ret_str HN.out.symm, HB1.out⟩
  · have HN := Lib.hid (sgTV_yes b u t hv)
    have HV := Lib.hid hv
    obtain ⟨h1, h2, h3, h4⟩ := okA_t hv
    clear hv
    have HS := Lib.hid (fun (z : Int) (h0 : 10 ≤ z) (h1 : z < 100) W => (spec_any z W).mono (R' := fun e w' => e = .returned (.string (nt z)) ∧ Below W.heap.size W w') fun e w' h => by rw [if_pos (by omega)] at h; exact h)
    by_cases c1 : fg = 0
    · subst c1
      by_cases c2 : bg = 0
      · subst c2
        cases b <;> cases u <;> cases t <;>
        · go_enter Tryd.func4, Tryd.ntmps4
          go_wp2_with fail
          refine (spec_AttrOk_any _ _ _ _ _ _).mono ?_
          rintro e v1 ⟨rfl, hb1⟩
          rw [HV.out]
          have HB1 := Lib.hid (HB0.out.trans (hb1.mono (by simp)))
          obtain ⟨hc, hf⟩ := Attr.bcell hb1
          have hz : w.heap.size < v1.heap.size := by have := hb1.size; simp at this; omega
          clear hb1
          go_wp2_with fail
          go_ret
          exact ⟨ret_str (by rw [HN.out]; simp only [sgT, z00, pif_1, pif_4, pif_7, pif_f, nt_zero, app_nil, lit_head]), HB1.out⟩
      · have p2 : (0 : Int) < bg := by omega
        have n2 : (bg != 0) = true := by simp; omega
        have e2 := nt_two (z := bg + 39) (by omega) (by omega)
        have m2 := Int.add_comm 39 bg
        have N := Lib.hid (And.intro n2 trivial)
        have M := Lib.hid (And.intro m2 trivial)
        clear n2 m2
        cases b <;> cases u <;> cases t <;>
        · go_enter Tryd.func4, Tryd.ntmps4
          go_wp2_with fail
          refine (spec_AttrOk_any _ _ _ _ _ _).mono ?_
          rintro e v1 ⟨rfl, hb1⟩
          rw [HV.out]
          have HB1 := Lib.hid (HB0.out.trans (hb1.mono (by simp)))
          obtain ⟨hc, hf⟩ := Attr.bcell hb1
          have hz : w.heap.size < v1.heap.size := by have := hb1.size; simp at this; omega
          clear hb1
          go_wp2_with fail
          refine (HS.out (bg + 39) (by omega) (by omega) _).mono ?_
          rintro e v2 ⟨rfl, hb2⟩
          have HB2 := Lib.hid (HB1.out.trans (hb2.mono (by omega)))
          have hc2 := (Attr.bcell hb2).1
          have hz2 : w.heap.size < v2.heap.size := by have := hb2.size; omega
          clear hb2
          go_wp2_with fail
          go_ret
          exact ⟨ret_str (by rw [HN.out]; simp only [sgT, z00, pif_1, pif_4, pif_7, pif_f, nt_zero, app_nil, lit_head, N.out.1]; simp only [pif_t, ← ByteArray.append_assoc, M.out.1]), HB2.out⟩
    · by_cases c2 : bg = 0
      · subst c2
        have p1 : (0 : Int) < fg := by omega
        have n1 : (fg != 0) = true := by simp; omega
        have e1 := nt_two (z := fg + 29) (by omega) (by omega)
        have m1 := Int.add_comm 29 fg
        have N := Lib.hid (And.intro n1 trivial)
        have M := Lib.hid (And.intro m1 trivial)
        clear n1 m1
        cases b <;> cases u <;> cases t <;>
        · go_enter Tryd.func4, Tryd.ntmps4
          go_wp2_with fail
          refine (spec_AttrOk_any _ _ _ _ _ _).mono ?_
          rintro e v1 ⟨rfl, hb1⟩
          rw [HV.out]
          have HB1 := Lib.hid (HB0.out.trans (hb1.mono (by simp)))
          obtain ⟨hc, hf⟩ := Attr.bcell hb1
          have hz : w.heap.size < v1.heap.size := by have := hb1.size; simp at this; omega
          clear hb1
          go_wp2_with fail
          refine (HS.out (fg + 29) (by omega) (by omega) _).mono ?_
          rintro e v2 ⟨rfl, hb2⟩
          have HB2 := Lib.hid (HB1.out.trans (hb2.mono (by omega)))
          have hc2 := (Attr.bcell hb2).1
          have hz2 : w.heap.size < v2.heap.size := by have := hb2.size; omega
          clear hb2
          go_wp2_with fail
          go_ret
          exact ⟨ret_str (by rw [HN.out]; simp only [sgT, z00, pif_1, pif_4, pif_7, pif_f, nt_zero, app_nil, lit_head, N.out.1]; simp only [pif_t, ← ByteArray.append_assoc, M.out.1]), HB2.out⟩
      · have p1 : (0 : Int) < fg := by omega
        have n1 : (fg != 0) = true := by simp; omega
        have e1 := nt_two (z := fg + 29) (by omega) (by omega)
        have m1 := Int.add_comm 29 fg
        have p2 : (0 : Int) < bg := by omega
        have n2 : (bg != 0) = true := by simp; omega
        have e2 := nt_two (z := bg + 39) (by omega) (by omega)
        have m2 := Int.add_comm 39 bg
        have N := Lib.hid (And.intro n1 n2)
        have M := Lib.hid (And.intro m1 m2)
        clear n1 n2 m1 m2
        cases b <;> cases u <;> cases t <;>
        · go_enter Tryd.func4, Tryd.ntmps4
          go_wp2_with fail
          refine (spec_AttrOk_any _ _ _ _ _ _).mono ?_
          rintro e v1 ⟨rfl, hb1⟩
          rw [HV.out]
          have HB1 := Lib.hid (HB0.out.trans (hb1.mono (by simp)))
          obtain ⟨hc, hf⟩ := Attr.bcell hb1
          have hz : w.heap.size < v1.heap.size := by have := hb1.size; simp at this; omega
          clear hb1
          go_wp2_with fail
          refine (HS.out (fg + 29) (by omega) (by omega) _).mono ?_
          rintro e v2 ⟨rfl, hb2⟩
          have HB2 := Lib.hid (HB1.out.trans (hb2.mono (by omega)))
          have hc2 := (Attr.bcell hb2).1
          have hz2 : w.heap.size < v2.heap.size := by have := hb2.size; omega
          clear hb2
          go_wp2_with fail
          refine (HS.out (bg + 39) (by omega) (by omega) _).mono ?_
          rintro e v3 ⟨rfl, hb3⟩
          have HB3 := Lib.hid (HB2.out.trans (hb3.mono (by omega)))
          have hc3 := (Attr.bcell hb3).1
          have hz3 : w.heap.size < v3.heap.size := by have := hb3.size; omega
          clear hb3
          go_wp2_with fail
          go_ret
          exact ⟨ret_str (by rw [HN.out]; simp only [sgT, z00, pif_1, pif_4, pif_7, pif_f, nt_zero, app_nil, lit_head, N.out.1, N.out.2]; simp only [pif_t, ← ByteArray.append_assoc, M.out.1, M.out.2]), HB3.out⟩
end Go.Proofs.YtmmdggmnjmoebabDoor.Sgt
