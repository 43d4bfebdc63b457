/- Words and lemmas, merged (once: ScCloneI, ScCpR) -/
import Derived.Test.YtbifbeahakchjaaScCopy
import Derived.Test.YtbifbeahakchjaaScLaw
import Derived.Test.YtbifbeahakchjaaGrCopy
namespace Go.Proofs.Ytbifbeahakchjaa.Sc
open Go.RowKit Go.Proofs.Ytbifbeahakchjaa.Bytes Go.Proofs.Ytbifbeahakchjaa.Rows_ Go.Proofs.Ytbifbeahakchjaa.RowK Go.Proofs.Ytbifbeahakchjaa.Gr Go.Proofs.Ytbifbeahakchjaa.DOk
set_option linter.unusedVariables false
set_option maxRecDepth 100000 in
set_option maxHeartbeats 800000 in
theorem cloneI_any (A : Option Addr) (n c : Nat) (zs : List Int) (w : World) (hA : A = none → n = 0 ∧ c = 0) (hr : RdI w w.heap.size A zs) (hl : zs.length = n) (hn : n ≤ 2097152) :
    Calls Try.prog 127 #[.slice A n c] w fun e w' => ∃ A' c', e = .returned (.slice A' n c') ∧ OwnI w' w.heap.size A' n c' zs ∧ Below w.heap.size w w' := by
  have HL := Lib.hid hl
  have HA := Lib.hid hA
  clear hl hA
  have hown0 := own_empty w 3 1
  have hb0 : Below w.heap.size w (w.alloc (.cells #[] 3)) := (Below.refl w.heap.size w).alloc (Nat.le_refl _) (.cells #[] 3)
  have hr0 : RdK 1 (w.alloc (.cells #[] 3)) w.heap.size A (zs.map fun z => [Value.int .i64 z]) := rdK_I (hr.below (Nat.le_refl _) hb0)
  rcases A with _ | ad
  · obtain ⟨rfl, rfl⟩ := HA.out rfl
    obtain rfl : zs = [] := List.eq_nil_of_length_eq_zero HL.out
    have hnil := fun W : World => Lib.run_eql_slice_nil (P := Try.prog) W 42 3 none 0 0 0 0 Try.underlying42
    go_enter Try.func127, Try.ntmps127
    go_wp2_with fail
    go_ret
    exact ⟨none, 0, rfl, World.ownsRow_nil w _ _ _, Below.refl _ _⟩
  · have hnil := fun W : World => Lib.run_eql_slice_nil (P := Try.prog) W 42 3 (some ad) n c 0 0 Try.underlying42
    go_enter Try.func127, Try.ntmps127
    go_wp2_with (at_builtin; refine append_rows Try.underlying42 intInfo rfl (by decide) (by decide) rfl _ _ rfl rfl rfl hown0 hr0 (by simp) (by simp [Value.oneCell']) HA.out (by rw [List.length_map]; exact HL.out) (by omega) (by omega) (by simp) ?_)
    intro A1 c1 w1 ho1 hb1 _
    have HO1 := Lib.hid (show OwnI w1 w.heap.size A1 n c1 zs by unfold OwnI; rw [← iv_flat]; simpa using ho1)
    have HB2 := Lib.hid (hb0.trans hb1)
    clear hown0 hb0 hr0 hb1 hr ho1
    go_wp2_with fail
    go_ret
    exact ⟨_, _, rfl, HO1.out, HB2.out⟩
end Go.Proofs.Ytbifbeahakchjaa.Sc
namespace Go.Proofs.Ytbifbeahakchjaa.Sc
open Go.RowKit Go.Proofs.Ytbifbeahakchjaa.Bytes Go.Proofs.Ytbifbeahakchjaa.Rows_ Go.Proofs.Ytbifbeahakchjaa.RowK Go.Proofs.Ytbifbeahakchjaa.Gr Go.Proofs.Ytbifbeahakchjaa.DOk Go.Proofs.Ytbifbeahakchjaa.Opq
set_option linter.unusedVariables false
attribute [local go_sem ↓] Go.wp_at_zero Go.wp_at_succ
set_option maxRecDepth 100000 in
set_option maxHeartbeats 3200000 in
theorem copyRows_any (A : Option Addr) (n c : Nat) (rs : List SlC) (w : World) (hr : RdR w w.heap.size A rs) (hl : rs.length = n) (hn : n ≤ 2097152) (hrc : RdCs w w.heap.size rs) (hcn : ∀ r ∈ rs, r.cs.length ≤ 2097152) (hna : ∀ r ∈ rs, r.A = none → r.cs.length = 0 ∧ r.c = 0) :
    Calls Try.prog 126 #[.slice A n c] w fun e w' => ∃ A' c' gs, e = .returned (.slice A' n c') ∧ OwnR w' w.heap.size A' n c' gs ∧ gs.map (·.cs) = rs.map (·.cs) ∧ OwnCs w' w.heap.size gs ∧ Below w.heap.size w w' := by
  obtain ⟨i0, hi, hz0, hz1, hz2⟩ := info_parts rowInfo
  have hm : n ≤ maxLen := by unfold maxLen; omega
  have HL := Lib.hid hl
  have HR := Lib.hid hr
  have HRB := Lib.hid hrc
  have HFN := Lib.hid hcn
  have HNA := Lib.hid hna
  clear hl hr hrc hcn hna
  go_enter Try.func126, Try.ntmps126
  go_wp2_with (at_make; refine wpList_make_full _ rfl _ _ 50 rfl w.heap.size 139 i0 (.agg #[.slice none 0 0]) 1 Try.underlying50 hi hz0 hz1 _ _ _ _ n rfl rfl rfl rfl ?c1 hm (Nat.le_refl _) ?_)
  case c1 => rw [hz2]; omega
  intro w1 hown hgrow
  have hown' : w1.ownsRow w.heap.size 139 1 (.slice (some ⟨w.heap.size, 0, none⟩) n n) n (partR [] n 0) := by
    have h := made_flat #[Value.slice none 0 0] 1 n rfl (by omega)
    rw [Nat.mul_one] at h
    rw [h] at hown
    exact hown
  have hb1 : Below w.heap.size w w1 := (Below.refl _ _).grown hgrow (Nat.le_refl _) (by simp)
  have hz1' : w.heap.size < w1.heap.size := by
    rcases hown'.2 with ⟨h, _⟩ | ⟨g, cap, cur, h, _, hg, _⟩
    · cases h
    · injection h with h; injection h with h; injection h with h; subst h; exact (Array.getElem?_eq_some_iff.1 hg).1
  clear hown hgrow
  go_wp2_with fail
  go_loopw [11] (fun i wr => ∃ (k : Nat) (gs : List SlC), k ≤ n ∧ i = .int .i64 k ∧ wr.ownsRow w.heap.size 139 1 (.slice (some ⟨w.heap.size, 0, none⟩) n n) n (partR gs n k) ∧ Hid (gs.map (·.cs) = (rs.take k).map (·.cs)) ∧ OwnCs wr (w.heap.size + 1) gs ∧ Below w.heap.size w wr ∧ w.heap.size < wr.heap.size) (fun i _ => n - (intOf i).toNat)
  case atStart => exact ⟨0, [], Nat.zero_le _, rfl, hown', Lib.hid rfl, OwnCs.nil _ _, hb1, hz1'⟩
  case round =>
    obtain ⟨k, gs, hk, rfl, ho, HK, hbs, hb, hzr⟩ := hrel
    clear hown' hb1 hz1'
    have hz : w.heap.size ≤ wr.heap.size := hb.size
    by_cases hlt : k < n
    · have hlt' : k < rs.length := by rw [HL.out]; exact hlt
      obtain ⟨b, o, rfl, hB, hc0⟩ := (HR.out.below (Nat.le_refl _) hb).at_ hlt'
      have HB := Lib.hid hb
      have HBS := Lib.hid hbs
      have HRb := Lib.hid (((HRB.out _ (List.getElem_mem hlt')).below (Nat.le_refl _) hb).more hz)
      have hRn := HFN.out _ (List.getElem_mem hlt')
      have hna := HNA.out _ (List.getElem_mem hlt')
      have HGL := Lib.hid (show (gs.map rowR).length = k by
        have := congrArg List.length HK.out
        rw [List.length_map, List.length_map, List.length_take] at this
        rw [List.length_map]; omega)
      have HPO := Lib.hid (show partR gs n k = (gs.map rowR ++ [[Value.slice none 0 0]] ++ List.replicate (n - (k + 1)) zR).flatten by
        unfold partR; rw [rep_flat zR n k hlt, ← List.append_assoc]; rfl)
      have HKN := Lib.hid (show (rs.take (k + 1)).map (·.cs) = (rs.take k).map (·.cs) ++ [rs[k].cs] by
        rw [List.take_succ_eq_append_getElem hlt', List.map_append]; rfl)
      have HO := Lib.hid ho
      clear hb ho hbs
      generalize rs[k].A = x1 at *
      generalize rs[k].c = x3 at *
      generalize rs[k].cs = zs at *
      obtain ⟨x2, hx2⟩ : ∃ x, x = zs.length := ⟨_, rfl⟩
      rw [← hx2] at hc0 hRn hna
      have HNk := Lib.hid hna
      clear hna
      have HAL := Lib.hid ((Below.refl wr.heap.size wr).alloc (Nat.le_refl _) (.cells #[.slice x1 x2 x3] 139))
      have HX2 := Lib.hid hx2
      clear hx2
      go_wp2_with fail
      refine (cloneC_any x1 x2 x3 zs _ HNk.out ((HRb.out.below (Nat.le_refl _) HAL.out).more HAL.out.size) HX2.out.symm hRn).mono ?_
      rintro e v ⟨A2, c2, rfl, ho2', hb1'⟩
      have hb1 : Below wr.heap.size wr v := HAL.out.trans (hb1'.mono (by simp))
      have ho2 : OwnC v wr.heap.size A2 x2 c2 zs := ho2'.more (by simp)
      clear hb1' ho2' HAL
      have HOv := Lib.hid (own_belowK HO.out (Nat.le_refl _) hb1)
      have HBv := Lib.hid (HB.out.trans (hb1.mono hz))
      have hzv : w.heap.size < v.heap.size := by have := hb1.size; omega
      have HBSv := Lib.hid (show OwnCs v (w.heap.size + 1) (gs ++ [⟨A2, c2, zs⟩]) from ⟨fun f hf => by
        rcases List.mem_append.1 hf with hf | hf
        · exact (HBS.out.1 f hf).below (Nat.le_refl _) hb1
        · simp at hf; subst hf; show OwnC v _ A2 zs.length c2 zs; rw [← HX2.out]; exact ho2.more (by omega), List.pairwise_append.2 ⟨HBS.out.2, List.pairwise_singleton _ _, fun a ha b hb => by
          rw [List.mem_singleton] at hb; subst hb; exact apart_of (HBS.out.1 a ha) (y := ⟨A2, c2, zs⟩) (by show OwnC v _ A2 zs.length c2 zs; rw [← HX2.out]; exact ho2) (Nat.le_refl _)⟩⟩)
      obtain ⟨u0, hu0⟩ := own_there HOv.out (k) (by omega)
      have hf0 := World.ownsRow.frozenAt (h := HOv.out) (k)
      have HN := Lib.hid (show (v.setCell ⟨w.heap.size, k, none⟩ (.slice A2 x2 c2)).ownsRow w.heap.size 139 1 (.slice (some ⟨w.heap.size, 0, none⟩) n n) n (partR (gs ++ [⟨A2, c2, zs⟩]) n (k + 1)) by
        have h := HOv.out; rw [HPO.out] at h
        have h2 := rowJ (K := 1) rfl (row_len _) k HGL.out 0 (by omega) (.slice A2 x2 c2) h
        rw [Nat.mul_one, Nat.add_zero] at h2
        unfold partR; rw [List.map_append, HX2.out]; rw [HX2.out] at h2; exact h2)
      have HK2 := Lib.hid (show (gs ++ [(⟨A2, c2, zs⟩ : SlC)]).map (·.cs) = (rs.take (k + 1)).map (·.cs) by rw [List.map_append, HK.out, HKN.out]; rfl)
      clear hb1 ho2
      go_wp2_with fail
      exact ⟨⟨k + 1, gs ++ [⟨A2, c2, zs⟩], by omega, by go_num, HN.out, HK2, HBSv.out.set_ _ _ _ (by omega), HBv.out.setCell (Nat.le_refl _) _, by simp; exact hzv⟩, by simp [intOf]; omega⟩
    · obtain rfl : n = k := by omega
      have e : rs.take n = rs := List.take_of_length_le (by rw [HL.out]; exact Nat.le_refl _)
      have hK := HK.out
      rw [e] at hK
      have HK2 := Lib.hid hK
      have e2 : partR gs n n = (gs.map rowR).flatten := by unfold partR; simp
      rw [e2] at ho
      have HRF := Lib.hid (show OwnR wr w.heap.size (some ⟨w.heap.size, 0, none⟩) n n gs from OwnR.of ho)
      have HRBs := Lib.hid (show OwnCs wr w.heap.size gs from hbs.more (by omega))
      have HB := Lib.hid hb
      clear ho hbs hb hK e e2
      go_wp2_with fail
      go_ret
      exact ⟨_, _, rfl, gs, HRF.out, HK2.out, HRBs.out, HB.out⟩

end Go.Proofs.Ytbifbeahakchjaa.Sc
