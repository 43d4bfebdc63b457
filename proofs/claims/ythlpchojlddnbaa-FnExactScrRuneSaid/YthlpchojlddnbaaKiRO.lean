/- Words and lemmas, merged (once: KiR, ScOpen) -/
import Derived.Test.YthlpchojlddnbaaScCopy
import Derived.Test.YthlpchojlddnbaaScMkL
import Derived.Test.YthlpchojlddnbaaGrCopy
import Derived.Test.YthlpchojlddnbaaKiN
import Derived.Deep.RegionHeld3
import Derived.Deep.MidRow
import Derived.Deep.Cut
import Derived.Deep.CutRange
import Derived.Deep.DeepCutAuto
import Derived.Deep.DrawnRows
namespace Go.Proofs.Ythlpchojlddnbaa.Sc
open Go.RowKit Go.Proofs.Ythlpchojlddnbaa.Bytes Go.Proofs.Ythlpchojlddnbaa.Rows_ Go.Proofs.Ythlpchojlddnbaa.RowK Go.Proofs.Ythlpchojlddnbaa.Gr Go.Proofs.Ythlpchojlddnbaa.DOk
set_option linter.unusedVariables false
set_option maxRecDepth 100000 in
set_option maxHeartbeats 800000 in
theorem cloneI_any (A : Option Addr) (n c : Nat) (zs : List Int) (w : World) (hA : A = none → n = 0 ∧ c = 0) (hr : RdI w w.heap.size A zs) (hl : zs.length = n) (hn : n ≤ 2097152) :
    Calls Try.prog 117 #[.slice A n c] w fun e w' => ∃ A' c', e = .returned (.slice A' n c') ∧ OwnI w' w.heap.size A' n c' zs ∧ Below w.heap.size w w' := by
  have HL := Lib.hid hl
  have HA := Lib.hid hA
  clear hl hA
  have hown0 := own_empty w 3 1
  have hb0 : Below w.heap.size w (w.alloc (.cells #[] 3)) := (Below.refl w.heap.size w).alloc (Nat.le_refl _) (.cells #[] 3)
  have hr0 : RdK 1 (w.alloc (.cells #[] 3)) w.heap.size A (zs.map fun z => [Value.int .i64 z]) := rdK_I (hr.below (Nat.le_refl _) hb0)
  rcases A with _ | ad
  · obtain ⟨rfl, rfl⟩ := HA.out rfl
    obtain rfl : zs = [] := List.eq_nil_of_length_eq_zero HL.out
    have hnil := fun W : World => Lib.run_eql_slice_nil (P := Try.prog) W 46 3 none 0 0 0 0 Try.underlying46
    go_enter Try.func117, Try.ntmps117
    go_wp2_with fail
    go_ret
    exact ⟨none, 0, rfl, World.ownsRow_nil w _ _ _, Below.refl _ _⟩
  · have hnil := fun W : World => Lib.run_eql_slice_nil (P := Try.prog) W 46 3 (some ad) n c 0 0 Try.underlying46
    go_enter Try.func117, Try.ntmps117
    go_wp2_with (at_builtin; refine append_rows Try.underlying46 intInfo rfl (by decide) (by decide) rfl _ _ rfl rfl rfl hown0 hr0 (by simp) (by simp [Value.oneCell']) HA.out (by rw [List.length_map]; exact HL.out) (by omega) (by omega) (by simp) ?_)
    intro A1 c1 w1 ho1 hb1 _
    have HO1 := Lib.hid (show OwnI w1 w.heap.size A1 n c1 zs by unfold OwnI; rw [← iv_flat]; simpa using ho1)
    have HB2 := Lib.hid (hb0.trans hb1)
    clear hown0 hb0 hr0 hb1 hr ho1
    go_wp2_with fail
    go_ret
    exact ⟨_, _, rfl, HO1.out, HB2.out⟩
end Go.Proofs.Ythlpchojlddnbaa.Sc
namespace Go.Proofs.Ythlpchojlddnbaa.Sc
open Go.RowKit Go.Proofs.Ythlpchojlddnbaa.Bytes Go.Proofs.Ythlpchojlddnbaa.Rows_ Go.Proofs.Ythlpchojlddnbaa.RowK Go.Proofs.Ythlpchojlddnbaa.Gr Go.Proofs.Ythlpchojlddnbaa.DOk Go.Proofs.Ythlpchojlddnbaa.Opq
set_option linter.unusedVariables false
attribute [local go_sem ↓] Go.wp_at_zero Go.wp_at_succ
set_option maxRecDepth 100000 in
set_option maxHeartbeats 3200000 in
theorem copyRows_any (A : Option Addr) (n c : Nat) (rs : List SlC) (w : World) (hr : RdR w w.heap.size A rs) (hl : rs.length = n) (hn : n ≤ 2097152) (hrc : RdCs w w.heap.size rs) (hcn : ∀ r ∈ rs, r.cs.length ≤ 2097152) (hna : ∀ r ∈ rs, r.A = none → r.cs.length = 0 ∧ r.c = 0) :
    Calls Try.prog 116 #[.slice A n c] w fun e w' => ∃ A' c' gs, e = .returned (.slice A' n c') ∧ OwnR w' w.heap.size A' n c' gs ∧ gs.map (·.cs) = rs.map (·.cs) ∧ OwnCs w' w.heap.size gs ∧ Below w.heap.size w w' := by
  obtain ⟨i0, hi, hz0, hz1, hz2⟩ := info_parts rowInfo
  have hm : n ≤ maxLen := by unfold maxLen; omega
  have HL := Lib.hid hl
  have HR := Lib.hid hr
  have HRB := Lib.hid hrc
  have HFN := Lib.hid hcn
  have HNA := Lib.hid hna
  clear hl hr hrc hcn hna
  go_enter Try.func116, Try.ntmps116
  go_wp2_with (at_make; refine wpList_make_full _ rfl _ _ 51 rfl w.heap.size 115 i0 (.agg #[.slice none 0 0]) 1 Try.underlying51 hi hz0 hz1 _ _ _ _ n rfl rfl rfl rfl ?c1 hm (Nat.le_refl _) ?_)
  case c1 => rw [hz2]; omega
  intro w1 hown hgrow
  have hown' : w1.ownsRow w.heap.size 115 1 (.slice (some ⟨w.heap.size, 0, none⟩) n n) n (partR [] n 0) := by
    have h := made_flat #[Value.slice none 0 0] 1 n rfl (by omega)
    rw [Nat.mul_one] at h
    rw [h] at hown
    exact hown
  have hb1 : Below w.heap.size w w1 := (Below.refl _ _).grown hgrow (Nat.le_refl _) (by simp)
  have hz1' : w.heap.size < w1.heap.size := by
    rcases hown'.2 with ⟨h, _⟩ | ⟨g, cap, cur, h, _, hg, _⟩
    · cases h
    · injection h with h; injection h with h; injection h with h; subst h; exact (Array.getElem?_eq_some_iff.1 hg).1
  clear hown hgrow
  go_wp2_with fail
  go_loopw [11] (fun i wr => ∃ (k : Nat) (gs : List SlC), k ≤ n ∧ i = .int .i64 k ∧ wr.ownsRow w.heap.size 115 1 (.slice (some ⟨w.heap.size, 0, none⟩) n n) n (partR gs n k) ∧ Hid (gs.map (·.cs) = (rs.take k).map (·.cs)) ∧ OwnCs wr (w.heap.size + 1) gs ∧ Below w.heap.size w wr ∧ w.heap.size < wr.heap.size) (fun i _ => n - (intOf i).toNat)
  case atStart => exact ⟨0, [], Nat.zero_le _, rfl, hown', Lib.hid rfl, OwnCs.nil _ _, hb1, hz1'⟩
  case round =>
    obtain ⟨k, gs, hk, rfl, ho, HK, hbs, hb, hzr⟩ := hrel
    clear hown' hb1 hz1'
    have hz : w.heap.size ≤ wr.heap.size := hb.size
    by_cases hlt : k < n
    · have hlt' : k < rs.length := by rw [HL.out]; exact hlt
      obtain ⟨b, o, rfl, hB, hc0⟩ := (HR.out.below (Nat.le_refl _) hb).at_ hlt'
      have HB := Lib.hid hb
      have HBS := Lib.hid hbs
      have HRb := Lib.hid (((HRB.out _ (List.getElem_mem hlt')).below (Nat.le_refl _) hb).more hz)
      have hRn := HFN.out _ (List.getElem_mem hlt')
      have hna := HNA.out _ (List.getElem_mem hlt')
      have HGL := Lib.hid (show (gs.map rowR).length = k by
        have := congrArg List.length HK.out
        rw [List.length_map, List.length_map, List.length_take] at this
        rw [List.length_map]; omega)
      have HPO := Lib.hid (show partR gs n k = (gs.map rowR ++ [[Value.slice none 0 0]] ++ List.replicate (n - (k + 1)) zR).flatten by
        unfold partR; rw [rep_flat zR n k hlt, ← List.append_assoc]; rfl)
      have HKN := Lib.hid (show (rs.take (k + 1)).map (·.cs) = (rs.take k).map (·.cs) ++ [rs[k].cs] by
        rw [List.take_succ_eq_append_getElem hlt', List.map_append]; rfl)
      have HO := Lib.hid ho
      clear hb ho hbs
      generalize rs[k].A = x1 at *
      generalize rs[k].c = x3 at *
      generalize rs[k].cs = zs at *
      obtain ⟨x2, hx2⟩ : ∃ x, x = zs.length := ⟨_, rfl⟩
      rw [← hx2] at hc0 hRn hna
      have HNk := Lib.hid hna
      clear hna
      have HAL := Lib.hid ((Below.refl wr.heap.size wr).alloc (Nat.le_refl _) (.cells #[.slice x1 x2 x3] 115))
      have HX2 := Lib.hid hx2
      clear hx2
      go_wp2_with fail
      refine (cloneC_any x1 x2 x3 zs _ HNk.out ((HRb.out.below (Nat.le_refl _) HAL.out).more HAL.out.size) HX2.out.symm hRn).mono ?_
      rintro e v ⟨A2, c2, rfl, ho2', hb1'⟩
      have hb1 : Below wr.heap.size wr v := HAL.out.trans (hb1'.mono (by simp))
      have ho2 : OwnC v wr.heap.size A2 x2 c2 zs := ho2'.more (by simp)
      clear hb1' ho2' HAL
      have HOv := Lib.hid (own_belowK HO.out (Nat.le_refl _) hb1)
      have HBv := Lib.hid (HB.out.trans (hb1.mono hz))
      have hzv : w.heap.size < v.heap.size := by have := hb1.size; omega
      have HBSv := Lib.hid (show OwnCs v (w.heap.size + 1) (gs ++ [⟨A2, c2, zs⟩]) from ⟨fun f hf => by
        rcases List.mem_append.1 hf with hf | hf
        · exact (HBS.out.1 f hf).below (Nat.le_refl _) hb1
        · simp at hf; subst hf; show OwnC v _ A2 zs.length c2 zs; rw [← HX2.out]; exact ho2.more (by omega), List.pairwise_append.2 ⟨HBS.out.2, List.pairwise_singleton _ _, fun a ha b hb => by
          rw [List.mem_singleton] at hb; subst hb; exact apart_of (HBS.out.1 a ha) (y := ⟨A2, c2, zs⟩) (by show OwnC v _ A2 zs.length c2 zs; rw [← HX2.out]; exact ho2) (Nat.le_refl _)⟩⟩)
      obtain ⟨u0, hu0⟩ := own_there HOv.out (k) (by omega)
      have hf0 := World.ownsRow.frozenAt (h := HOv.out) (k)
      have HN := Lib.hid (show (v.setCell ⟨w.heap.size, k, none⟩ (.slice A2 x2 c2)).ownsRow w.heap.size 115 1 (.slice (some ⟨w.heap.size, 0, none⟩) n n) n (partR (gs ++ [⟨A2, c2, zs⟩]) n (k + 1)) by
        have h := HOv.out; rw [HPO.out] at h
        have h2 := rowJ (K := 1) rfl (row_len _) k HGL.out 0 (by omega) (.slice A2 x2 c2) h
        rw [Nat.mul_one, Nat.add_zero] at h2
        unfold partR; rw [List.map_append, HX2.out]; rw [HX2.out] at h2; exact h2)
      have HK2 := Lib.hid (show (gs ++ [(⟨A2, c2, zs⟩ : SlC)]).map (·.cs) = (rs.take (k + 1)).map (·.cs) by rw [List.map_append, HK.out, HKN.out]; rfl)
      clear hb1 ho2
      go_wp2_with fail
      exact ⟨⟨k + 1, gs ++ [⟨A2, c2, zs⟩], by omega, by go_num, HN.out, HK2, HBSv.out.set_ _ _ _ (by omega), HBv.out.setCell (Nat.le_refl _) _, by simp; exact hzv⟩, by simp [intOf]; omega⟩
    · obtain rfl : n = k := by omega
      have e : rs.take n = rs := List.take_of_length_le (by rw [HL.out]; exact Nat.le_refl _)
      have hK := HK.out
      rw [e] at hK
      have HK2 := Lib.hid hK
      have e2 : partR gs n n = (gs.map rowR).flatten := by unfold partR; simp
      rw [e2] at ho
      have HRF := Lib.hid (show OwnR wr w.heap.size (some ⟨w.heap.size, 0, none⟩) n n gs from OwnR.of ho)
      have HRBs := Lib.hid (show OwnCs wr w.heap.size gs from hbs.more (by omega))
      have HB := Lib.hid hb
      clear ho hbs hb hK e e2
      go_wp2_with fail
      go_ret
      exact ⟨_, _, rfl, gs, HRF.out, HK2.out, HRBs.out, HB.out⟩

end Go.Proofs.Ythlpchojlddnbaa.Sc
namespace Go.Proofs.Ythlpchojlddnbaa.Sc
open Go.RowKit Go.Proofs.Ythlpchojlddnbaa.Bytes Go.Proofs.Ythlpchojlddnbaa.Rows_ Go.Proofs.Ythlpchojlddnbaa.RowK Go.Proofs.Ythlpchojlddnbaa.Gr Go.Proofs.Ythlpchojlddnbaa.DOk Go.Proofs.Ythlpchojlddnbaa.Opq Go.Proofs.Ythlpchojlddnbaa.Attr
set_option linter.unusedVariables false
attribute [local go_sem ↓] Sc.exec_storeS Sc.exec_loadS Sc.exec_buildN
attribute [local go_sem] blkOf_ptr isHead_ptr aggN_agg setRow_alloc rowZ_at rowZ_past scrA_size one_scr rowOf_alloc_at rowOf_alloc_past rowOf_drew
attribute [local go_sem] scr_at0 scr_at1 scr_at2 scr_at3 scr_at4 scr_at5 scr_at6 scr_at7 scr_at8 scr_at9 scr_at10 scr_at11 scr_at12 scr_at13 scr_at14 scr_at15 scr_at16 scr_at17 scr_at18 scr_at19 scr_at20 scr_at21 scr_at22 scr_at23 scr_at24 scr_at25 scr_at26 scr_at27 scr_at28 scr_at29 scr_at30
theorem neS {w : World} {b base K n : Nat} {C : Array Value} {E : TypeId} {v : Value} {xs : List Value} (h : w.heap[b]? = some (.cells C 125 (0, 0))) (h' : w.ownsRow base E K v n xs) (hE : E ≠ 125) : v.ownBlock ≠ some b := by
  intro e
  rcases h'.2 with ⟨rfl, _⟩ | ⟨g, cap, cur, rfl, _, hg, _⟩
  · cases e
  · simp [Value.ownBlock] at e; subst e
    rw [hg] at h; injection h with h; injection h with h1 h2; exact hE h2
theorem neSR {w : World} {b base n c : Nat} {C : Array Value} {A : Option Addr} {rs : List SlC} (h : w.heap[b]? = some (.cells C 125 (0, 0))) (h' : OwnR w base A n c rs) : (Value.slice A n c).ownBlock ≠ some b := by
  intro e
  rcases h'.2 with ⟨rfl, _⟩ | ⟨g, p, cur, rfl, _, hg, _⟩
  · cases e
  · simp [Value.ownBlock] at e; subst e
    rw [hg] at h; injection h with h; injection h with h1 h2; exact absurd h2 (by decide)
def opn (s : ScrS) (A1 : Option Addr) (c1 : Nat) (A3 : Option Addr) (c3 : Nat) (A2 : Option Addr) (c2 : Nat) (gs : List SlC) : ScrS := { s with M := ⟨A1, c1, s.M.cs⟩, A := ⟨A3, c3, s.A.cs⟩, bA := A2, bk := c2, rows := gs }
set_option maxRecDepth 100000 in
set_option maxHeartbeats 1600000 in
theorem newScreen_any (s : ScrS) (w : World) (b : Nat) (ho : OwnS w b s) (hn : szS s ≤ 1048576) :
    Calls Try.prog 86 #[.agg (scrA s)] w fun e w' => ∃ g t, e = .returned (.pointer (some ⟨g, 0, none⟩)) ∧ RowN w' g t ∧ OwnS w' w.heap.size t ∧ t.data = s.data ∧ w.heap.size ≤ g ∧ Below w.heap.size w w' := by
  have hbx := (Below.refl w.heap.size w).alloc (Nat.le_refl _) (.cells (scrA s) 53)
  have H1 := Lib.hid hbx
  have R1 := Lib.hid (RowS.new w s)
  have hcn : ∀ r ∈ s.rows, r.cs.length ≤ 2097152 := fun r hr => by have := tot_mem hr; unfold szS at hn; omega
  have HG1 := Lib.hid (fun W (h : Below w.heap.size w W) => copyGrid_any s.mw s.mh s.M.A s.M.cs.length s.M.c s.M.cs W (own_noneK ho.m) ((ho.rd.M.below (Nat.le_refl _) h).more h.size) rfl (by unfold szS at hn; omega))
  have HG2 := Lib.hid (fun W (h : Below w.heap.size w W) => copyRows_any s.bA s.rows.length s.bk s.rows W ((ho.rd.r.below (Nat.le_refl _) h).more h.size) rfl (by unfold szS at hn; omega) ((ho.rd.rc.below (Nat.le_refl _) h).more h.size) hcn (fun r hr => own_noneK (ho.rows.1 r hr)))
  have HG3 := Lib.hid (fun W (h : Below w.heap.size w W) => copyGrid_any s.aw s.ah s.A.A s.A.cs.length s.A.c s.A.cs W (own_noneK ho.a) ((ho.rd.A.below (Nat.le_refl _) h).more h.size) rfl (by unfold szS at hn; omega))
  have HG4 := Lib.hid (fun W (h : Below w.heap.size w W) => cloneI_any s.tA s.tabs.length s.tk s.tabs W (own_noneK ho.t) ((ho.rd.t.below (Nat.le_refl _) h).more h.size) rfl (by unfold szS at hn; omega))
  clear hbx ho hn hcn
  go_enter Try.func86, Try.ntmps86
  go_upto_region 1 with fail
  have cel1 := R1.out.cell
  have row1 := R1.out.of
  go_cut [3] (fun p wx => ∃ (g : Nat) (A1 A2 A3 : Option Addr) (c1 c2 c3 : Nat) (gs : List SlC), p = .pointer (some ⟨g, 0, none⟩) ∧ wx.heap[g]? = some (.cells (xA s (opn s A1 c1 A3 c3 A2 c2 gs)) 125 (0, 0)) ∧ OwnCs wx w.heap.size (⟨A1, c1, s.M.cs⟩ :: ⟨A3, c3, s.A.cs⟩ :: gs) ∧ OwnR wx w.heap.size A2 gs.length c2 gs ∧ SamK gs s.rows s.rows.length ∧ w.heap.size < g ∧ Below w.heap.size w wx ∧ RowS wx w.heap.size s)
  case first =>
    go_region_held3 (fun w' => rowOf w' w.heap.size = scrA s ∧ ∀ j, w'.cell? ⟨w.heap.size, j, none⟩ = (scrA s)[j]?) (first | (constructor <;> assumption) | (exact ⟨R1.out.of, R1.out.cell⟩) | (exact ⟨(rowOf_alloc_past _ _ _ zz3).trans RW3.out.of, fun j => (World.cell?_alloc_lt _ _ _ zz3).trans (RW3.out.cell j)⟩) | go_keep) (first
      | (go_at_call 45; (with_reducible refine (HG1.out _ ?_).mono ?_); exact ⟨H1.out.os, H1.out.tape, H1.out.output, H1.out.size, H1.out.block⟩; rintro e v1 ⟨A1, c1, rfl, ho1', hb1'⟩; have hb1 : Below (w.alloc (.cells (scrA s) 53)).heap.size (w.alloc (.cells (scrA s) 53)) v1 := undrew hb1'; have HB1 := Lib.hid (H1.out.trans (hb1.mono (by simp))); have HO1 := Lib.hid ho1'; have RW1 := Lib.hid (R1.out.below hb1 (by simp)); have cel_RW1 := RW1.out.cell; have row_RW1 := RW1.out.of; have zz1 := RW1.out.lt; clear hb1 hb1' ho1')
      | (go_at_call 116; (with_reducible refine (HG2.out _ ?_).mono ?_); exact ⟨HB1.out.os, HB1.out.tape, HB1.out.output, HB1.out.size, HB1.out.block⟩; rintro e v2 ⟨A2, c2, gs, rfl, ho2', hs2', hc2', hb2'⟩; have hb2 : Below v1.heap.size v1 v2 := hb2'; have HB2 := Lib.hid (HB1.out.trans (hb2.mono (Nat.le_of_lt zz1))); have HO12 := Lib.hid (HO1.out.below (Nat.le_refl _) hb2); have HO2 := Lib.hid ho2'; have HC2 := Lib.hid hc2'; have HS2 := Lib.hid hs2'; have RW2 := Lib.hid (RW1.out.below hb2 zz1); have cel_RW2 := RW2.out.cell; have row_RW2 := RW2.out.of; have z2 := hb2.size; have zz2 := RW2.out.lt; clear hb2 hb2' ho2' hs2' hc2')
      | (go_at_call 45; (with_reducible refine (HG3.out _ ?_).mono ?_); exact ⟨HB2.out.os, HB2.out.tape, HB2.out.output, HB2.out.size, HB2.out.block⟩; rintro e v3 ⟨A3, c3, rfl, ho3', hb3'⟩; have hb3 : Below v2.heap.size v2 v3 := hb3'; have HB3 := Lib.hid (HB2.out.trans (hb3.mono (Nat.le_of_lt zz2))); have HO13 := Lib.hid (HO12.out.below (Nat.le_refl _) hb3); have HO23 := Lib.hid (HO2.out.below (Nat.le_refl _) hb3); have HC23 := Lib.hid (HC2.out.below (Nat.le_refl _) hb3); have HO3 := Lib.hid ho3'; have RW3 := Lib.hid (RW2.out.below hb3 zz2); have cel_RW3 := RW3.out.cell; have row_RW3 := RW3.out.of; have z3 := hb3.size; have zz3 := RW3.out.lt; clear hb3 hb3' ho3'))
    all_goals
      have hgl : gs.length = s.rows.length := by have := congrArg List.length HS2.out; simpa using this
      have e : joinN (.agg (scrA s)) (.agg #[.int .i64 s.mw, .int .i64 s.mh, .slice A1 s.M.cs.length c1, .slice A2 s.rows.length c2]) (.agg #[.int .i64 s.aw, .int .i64 s.ah, .slice A3 s.A.cs.length c3]) = xA s (opn s A1 c1 A3 c3 A2 c2 gs) := by rw [join_ns, ← hgl]; rfl
      have hba : ∀ o, Below v3.heap.size v3 (v3.alloc o) := fun o => (Below.refl _ _).alloc (Nat.le_refl _) o
      have HE := Lib.hid (heap_alloc_new v3 (.cells (xA s (opn s A1 c1 A3 c3 A2 c2 gs)) 125))
      have HB := Lib.hid (HB3.out.trans ((hba (.cells (xA s (opn s A1 c1 A3 c3 A2 c2 gs)) 125)).mono (Nat.le_of_lt zz3)))
      have HR := Lib.hid (RW3.out.alloc (.cells (xA s (opn s A1 c1 A3 c3 A2 c2 gs)) 125))
      have HOC := Lib.hid (show OwnCs (v3.alloc (.cells (xA s (opn s A1 c1 A3 c3 A2 c2 gs)) 125)) w.heap.size (⟨A1, c1, s.M.cs⟩ :: ⟨A3, c3, s.A.cs⟩ :: gs) from by
        have o1 := (HO13.out.below (Nat.le_refl _) (hba (.cells (xA s (opn s A1 c1 A3 c3 A2 c2 gs)) 125)))
        have o3 := (HO3.out.below (Nat.le_refl _) (hba (.cells (xA s (opn s A1 c1 A3 c3 A2 c2 gs)) 125)))
        have o2 := (HC23.out.below (Nat.le_refl _) (hba (.cells (xA s (opn s A1 c1 A3 c3 A2 c2 gs)) 125)))
        refine ⟨fun r hr => ?_, List.pairwise_cons.2 ⟨fun y hy => ?_, List.pairwise_cons.2 ⟨fun y hy => ?_, o2.2⟩⟩⟩
        · rcases List.mem_cons.1 hr with rfl | hr
          · exact o1.more (by simp)
          · rcases List.mem_cons.1 hr with rfl | hr
            · exact o3.more (Nat.le_of_lt zz2)
            · exact (o2.1 r hr).more (Nat.le_of_lt zz1)
        · rcases List.mem_cons.1 hy with rfl | hy
          · exact apart_of (x := ⟨A1, c1, s.M.cs⟩) (y := ⟨A3, c3, s.A.cs⟩) HO12.out HO3.out (Nat.le_refl _)
          · exact apart_of (x := ⟨A1, c1, s.M.cs⟩) HO1.out (HC23.out.1 y hy) (Nat.le_refl _)
        · exact (fun g hg hg' => (apart_of (y := ⟨A3, c3, s.A.cs⟩) (HC2.out.1 y hy) HO3.out (Nat.le_refl _)) g hg' hg))
      have HOR := Lib.hid (show OwnR (v3.alloc (.cells (xA s (opn s A1 c1 A3 c3 A2 c2 gs)) 125)) w.heap.size A2 gs.length c2 gs from by rw [hgl]; exact ((HO23.out.below (Nat.le_refl _) (hba _)).more (Nat.le_of_lt zz1)))
      have HK := Lib.hid (show SamK gs s.rows s.rows.length from by unfold SamK; rw [List.take_length]; exact HS2.out)
      rw [e]
      clear e hba hgl
      go_wp2_with fail
      go_meet
      case rel => exact ⟨v3.heap.size, A1, A2, A3, c1, c2, c3, gs, rfl, HE.out, HOC.out, HOR.out, HK.out, zz3, HB.out, HR.out⟩
  case rest =>
    obtain ⟨g, A1, A2, A3, c1, c2, c3, gs, rfl, hE, hC, hR, hK, hg, hB, hS⟩ := hcut
    have hRB : RowB wc g (xA s (opn s A1 c1 A3 c3 A2 c2 gs)) := ⟨_, hE⟩
    have hf := hRB.free
    have k2 : wc.cell? ⟨g, 2, none⟩ = some (.int .i64 s.mw) := hRB.cell 2
    have k3 : wc.cell? ⟨g, 3, none⟩ = some (.int .i64 s.mh) := hRB.cell 3
    have k4 : wc.cell? ⟨g, 4, none⟩ = some (.slice s.M.A s.M.cs.length s.M.c) := hRB.cell 4
    have k5 : wc.cell? ⟨g, 5, none⟩ = some (.int .i64 s.aw) := hRB.cell 5
    have k6 : wc.cell? ⟨g, 6, none⟩ = some (.int .i64 s.ah) := hRB.cell 6
    have k7 : wc.cell? ⟨g, 7, none⟩ = some (.slice s.A.A s.A.cs.length s.A.c) := hRB.cell 7
    have k30 : wc.cell? ⟨g, 30, none⟩ = some (.slice s.bA s.rows.length s.bk) := hRB.cell 30
    have t28 : wc.cell? ⟨w.heap.size, 28, none⟩ = some (.slice s.tA s.tabs.length s.tk) := hS.cell 28
    have hne : w.heap.size ≠ g := by omega
    have hgw : g < wc.heap.size := hRB.lt
    have HE2 := Lib.hid (show (((((((wc.setCell ⟨g, 2, none⟩ (.int .i64 0)).setCell ⟨g, 3, none⟩ (.int .i64 0)).setCell ⟨g, 4, none⟩ (.slice none 0 0)).setCell ⟨g, 5, none⟩ (.int .i64 0)).setCell ⟨g, 6, none⟩ (.int .i64 0)).setCell ⟨g, 7, none⟩ (.slice none 0 0)).setCell ⟨g, 30, none⟩ (.slice none 0 0)).heap[g]? = some (.cells (nsA (opn s A1 c1 A3 c3 A2 c2 gs)) 125 (0, 0)) from (heap_setCell_same ((((((wc.setCell ⟨g, 2, none⟩ (.int .i64 0)).setCell ⟨g, 3, none⟩ (.int .i64 0)).setCell ⟨g, 4, none⟩ (.slice none 0 0)).setCell ⟨g, 5, none⟩ (.int .i64 0)).setCell ⟨g, 6, none⟩ (.int .i64 0)).setCell ⟨g, 7, none⟩ (.slice none 0 0)) g 30 _ _ (.slice none 0 0) (heap_setCell_same (((((wc.setCell ⟨g, 2, none⟩ (.int .i64 0)).setCell ⟨g, 3, none⟩ (.int .i64 0)).setCell ⟨g, 4, none⟩ (.slice none 0 0)).setCell ⟨g, 5, none⟩ (.int .i64 0)).setCell ⟨g, 6, none⟩ (.int .i64 0)) g 7 _ _ (.slice none 0 0) (heap_setCell_same ((((wc.setCell ⟨g, 2, none⟩ (.int .i64 0)).setCell ⟨g, 3, none⟩ (.int .i64 0)).setCell ⟨g, 4, none⟩ (.slice none 0 0)).setCell ⟨g, 5, none⟩ (.int .i64 0)) g 6 _ _ (.int .i64 0) (heap_setCell_same (((wc.setCell ⟨g, 2, none⟩ (.int .i64 0)).setCell ⟨g, 3, none⟩ (.int .i64 0)).setCell ⟨g, 4, none⟩ (.slice none 0 0)) g 5 _ _ (.int .i64 0) (heap_setCell_same ((wc.setCell ⟨g, 2, none⟩ (.int .i64 0)).setCell ⟨g, 3, none⟩ (.int .i64 0)) g 4 _ _ (.slice none 0 0) (heap_setCell_same (wc.setCell ⟨g, 2, none⟩ (.int .i64 0)) g 3 _ _ (.int .i64 0) (heap_setCell_same wc g 2 _ _ (.int .i64 0) hE))))))))
    have HB2 := Lib.hid (show Below w.heap.size w (((((((wc.setCell ⟨g, 2, none⟩ (.int .i64 0)).setCell ⟨g, 3, none⟩ (.int .i64 0)).setCell ⟨g, 4, none⟩ (.slice none 0 0)).setCell ⟨g, 5, none⟩ (.int .i64 0)).setCell ⟨g, 6, none⟩ (.int .i64 0)).setCell ⟨g, 7, none⟩ (.slice none 0 0)).setCell ⟨g, 30, none⟩ (.slice none 0 0)) from (((((((hB.setCell (by simp; omega) _).setCell (by simp; omega) _).setCell (by simp; omega) _).setCell (by simp; omega) _).setCell (by simp; omega) _).setCell (by simp; omega) _).setCell (by simp; omega) _))
    have HON := Lib.hid (show Only (fun i => i = g) wc (((((((wc.setCell ⟨g, 2, none⟩ (.int .i64 0)).setCell ⟨g, 3, none⟩ (.int .i64 0)).setCell ⟨g, 4, none⟩ (.slice none 0 0)).setCell ⟨g, 5, none⟩ (.int .i64 0)).setCell ⟨g, 6, none⟩ (.int .i64 0)).setCell ⟨g, 7, none⟩ (.slice none 0 0)).setCell ⟨g, 30, none⟩ (.slice none 0 0)) from ((((((((((((((Only.refl (fun i => i = g) _).trans (Only.cell_ (S := fun i => i = g) _ g 2 _ rfl))).trans (Only.cell_ (S := fun i => i = g) _ g 3 _ rfl))).trans (Only.cell_ (S := fun i => i = g) _ g 4 _ rfl))).trans (Only.cell_ (S := fun i => i = g) _ g 5 _ rfl))).trans (Only.cell_ (S := fun i => i = g) _ g 6 _ rfl))).trans (Only.cell_ (S := fun i => i = g) _ g 7 _ rfl))).trans (Only.cell_ (S := fun i => i = g) _ g 30 _ rfl)))
    have HC2 := Lib.hid (hC.only HON.out (fun r hr i hi e => by subst e; exact neS hE (hC.1 r hr) (by decide) hi))
    have HR2 := Lib.hid (hR.only HON.out (fun i hi e => by subst e; exact neSR hE hR hi))
    have HK := Lib.hid hK
    clear hE hC hR hB hS hRB H1 R1 HG1 HG2 HG3 hK HON
    go_wp2_with fail
    refine (HG4.out _ HB2.out).mono ?_
    rintro e v4 ⟨A4, c4, rfl, ho4, hb4⟩
    have RN := Lib.hid (RowN.below (show RowN (((((((wc.setCell ⟨g, 2, none⟩ (.int .i64 0)).setCell ⟨g, 3, none⟩ (.int .i64 0)).setCell ⟨g, 4, none⟩ (.slice none 0 0)).setCell ⟨g, 5, none⟩ (.int .i64 0)).setCell ⟨g, 6, none⟩ (.int .i64 0)).setCell ⟨g, 7, none⟩ (.slice none 0 0)).setCell ⟨g, 30, none⟩ (.slice none 0 0)) g (opn s A1 c1 A3 c3 A2 c2 gs) from HE2.out) hb4 (by simp; omega))
    have HC4 := Lib.hid (HC2.out.below (Nat.le_refl _) hb4)
    have HR4 := Lib.hid (HR2.out.below (Nat.le_refl _) hb4)
    have HO4 := Lib.hid (show OwnI v4 wc.heap.size A4 s.tabs.length c4 s.tabs by simpa using ho4)
    have HB4 := Lib.hid (HB2.out.trans (hb4.mono HB2.out.size))
    have q28 : v4.cell? ⟨g, 28, none⟩ = some (.slice s.tA s.tabs.length s.tk) := RN.out.cell 28
    have q28f := RN.out.free 28
    clear hb4 ho4 HE2 HB2 HC2 HR2 k2 k3 k4 k5 k6 k7 k30 t28 hf HG4
    go_wp2_with fail
    go_ret
    have hgl : gs.length = s.rows.length := by have := congrArg List.length HK.out; simpa using this
    have hOS : OwnS v4 w.heap.size { opn s A1 c1 A3 c3 A2 c2 gs with tA := A4, tk := c4, tabs := s.tabs } := ⟨HC4.out, HO4.out.more (by omega), HR4.out⟩
    have RN5 : RowN (v4.setCell ⟨g, 28, none⟩ (.slice A4 s.tabs.length c4)) g { opn s A1 c1 A3 c3 A2 c2 gs with tA := A4, tk := c4, tabs := s.tabs } := RN.out.s_tabs
    refine ⟨g, { opn s A1 c1 A3 c3 A2 c2 gs with tA := A4, tk := c4, tabs := s.tabs }, rfl, RN5, RN.out.own hOS, ?_, by omega, HB4.out.setCell (by simp; omega) _⟩
    have hk := HK.out
    unfold SamK at hk
    rw [List.take_length] at hk
    unfold ScrS.data opn
    simp only [hk]
end Go.Proofs.Ythlpchojlddnbaa.Sc

