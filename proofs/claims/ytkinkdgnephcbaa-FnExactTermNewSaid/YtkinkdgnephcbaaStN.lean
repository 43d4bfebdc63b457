/- TermNew in the model and in the program. -/
import Derived.Test.YtkinkdgnephcbaaStV
import Derived.Test.YtkinkdgnephcbaaScNew
import Derived.Deep.RegionWith
import Derived.Deep.DrawnRows
namespace Go.Proofs.Ytkinkdgnephcbaa.St
open Go.RowKit Go.Proofs.Ytkinkdgnephcbaa.Bytes Go.Proofs.Ytkinkdgnephcbaa.Rows_ Go.Proofs.Ytkinkdgnephcbaa.RowK Go.Proofs.Ytkinkdgnephcbaa.Gr Go.Proofs.Ytkinkdgnephcbaa.DOk Go.Proofs.Ytkinkdgnephcbaa.Opq Go.Proofs.Ytkinkdgnephcbaa.Sc
set_option linter.unusedVariables false
def joinT (v : Value) : Array Value := ([Value.int .i64 0, .bool false, .slice none 0 0, .slice none 0 0] ++ v.cells.toList).toArray
set_option maxRecDepth 100000 in
theorem builtT (c0 c1 c2 c3 c4 c5 c6 c7 c8 c9 c10 c11 c12 c13 c14 c15 c16 c17 c18 c19 c20 c21 c22 c23 c24 c25 c26 c27 c28 c29 c30 : Value) : Try.prog.built 58 [(1, .agg #[c0, c1, c2, c3, c4, c5, c6, c7, c8, c9, c10, c11, c12, c13, c14, c15, c16, c17, c18, c19, c20, c21, c22, c23, c24, c25, c26, c27, c28, c29, c30])] = some (joinT (.agg #[c0, c1, c2, c3, c4, c5, c6, c7, c8, c9, c10, c11, c12, c13, c14, c15, c16, c17, c18, c19, c20, c21, c22, c23, c24, c25, c26, c27, c28, c29, c30])) := by kernel_rfl
theorem len31 {C : Array Value} (h : C.size = 31) : ∃ c0 c1 c2 c3 c4 c5 c6 c7 c8 c9 c10 c11 c12 c13 c14 c15 c16 c17 c18 c19 c20 c21 c22 c23 c24 c25 c26 c27 c28 c29 c30, C = #[c0, c1, c2, c3, c4, c5, c6, c7, c8, c9, c10, c11, c12, c13, c14, c15, c16, c17, c18, c19, c20, c21, c22, c23, c24, c25, c26, c27, c28, c29, c30] := by
  obtain ⟨l⟩ := C
  have h' : l.length = 31 := h
  match l, h' with
  | [c0, c1, c2, c3, c4, c5, c6, c7, c8, c9, c10, c11, c12, c13, c14, c15, c16, c17, c18, c19, c20, c21, c22, c23, c24, c25, c26, c27, c28, c29, c30], _ => exact ⟨c0, c1, c2, c3, c4, c5, c6, c7, c8, c9, c10, c11, c12, c13, c14, c15, c16, c17, c18, c19, c20, c21, c22, c23, c24, c25, c26, c27, c28, c29, c30, rfl⟩
theorem of_aggN {n : Nat} {v : Value} (h : aggN n v = true) : ∃ C : Array Value, v = .agg C ∧ C.size = n := by
  cases v <;> simp [aggN] at h
  exact ⟨_, rfl, h⟩
theorem builtT_of {v : Value} (h : aggN 31 v = true) : Try.prog.built 58 [(1, v)] = some (joinT v) := by
  obtain ⟨C0, rfl, e0⟩ := of_aggN h
  obtain ⟨c0, c1, c2, c3, c4, c5, c6, c7, c8, c9, c10, c11, c12, c13, c14, c15, c16, c17, c18, c19, c20, c21, c22, c23, c24, c25, c26, c27, c28, c29, c30, rfl⟩ := len31 e0
  exact builtT _ _ _ _ _ _ _ _ _ _ _ _ _ _ _ _ _ _ _ _ _ _ _ _ _ _ _ _ _ _ _ 
set_option maxRecDepth 100000 in
theorem exec_buildT {ρ : Operand → Value} {dst : Option Tmp} {x0 : Operand} {ty : TypeId} {pos : String} {af : Array Edge} {g : Option (Nat × Bool)} (w : World) (h0 : aggN 31 (ρ x0) = true) :
    (execOp ρ ⟨dst, .build 58 #[(1, x0)], ty, pos, af, g⟩).run Try.prog w = .ok (.value (.agg (joinT (ρ x0)))) w := by
  have hm : ((#[(1, x0)] : Array (Nat × Operand)).map fun p => (p.1, ρ p.2)) = #[(1, ρ x0)] := by simp
  show (Instr.build 58 ((#[(1, x0)] : Array (Nat × Operand)).map fun p => (p.1, ρ p.2)) >>= fun a => pure (Next.value a)).run _ w = _
  rw [hm, Sem.run_bind, run_build w 58 _ _ (builtT_of h0)]; rfl
def v0 : VpS := ⟨0, false, none, 0, [], none, 0, []⟩
theorem join_t (s : ScrS) : joinT (.agg (scrA s)) = termA ⟨v0, s⟩ := rfl
theorem cut_scr (s : ScrS) : cut (scrA s) 0 31 = scrA s := rfl
theorem v0_own (w : World) (base : Nat) : OwnV w base v0 := ⟨⟨rfl, .inl ⟨rfl, rfl⟩⟩, ⟨rfl, .inl ⟨rfl, rfl⟩⟩⟩
def AnsT (gw gh lim : Int) (w : World) (e : Ending) (w' : World) : Prop := ∃ t, e = .returned (.tuple #[.agg (termA t), .bool (newB gw gh lim)]) ∧ OwnT w' w.heap.size t ∧ t.data = ⟨v0.data, newD gw gh lim⟩ ∧ Below w.heap.size w w'
attribute [local go_sem ↓] Go.wp_at_zero Go.wp_at_succ Sc.exec_storeS Sc.exec_loadS exec_buildT lm_lawsVp lm_implVp lm_lawsScr lm_implScr lm_lawsTerm lm_implTerm lm_lawsPane lm_implPane lm_lawsWin lm_implWin lm_lawsSess lm_implSess lr_implVp lr_implTerm lr_implPane lr_implWin lr_implSess lr_lawsState lr_implState sm_Vp sm_Scr sm_Term sm_Pane sm_Win sm_Sess sr_Vp sr_Term sr_Pane sr_Win sr_Sess sr_State
attribute [local go_sem] RowZ.set rowOf_set rowOf_setRow_other rowOf_setRow_same rowOf_setCell_other blkOf_ptr isHead_ptr aggN_agg isPtr_ptr offOf_ptr setRow_alloc rowZ_at rowZ_past rowZ_setRow_other rowOf_alloc_at rowOf_alloc_past rowOf_drew seg_alloc_past seg_alloc_at seg_setCell_other seg_setRow_other seg_drew cut_term_scr cut_term_vp cut_pane_term vpA_size termA_size paneA_size winA_size sessA_size stA_size scrA_size one_vp one_scr one_term one_pane one_win one_sess one_st vp_at0 vp_at1 vp_at2 vp_at3 term_at0 term_at1 term_at2 term_at3 pane_at0 pane_at1 pane_at2 pane_at3 pane_at4 pane_at5 win_at0 win_at1 win_at2 win_at3 win_at4 sess_at0 sess_at1 sess_at2 st_at0 st_at1 st_at2 st_at3 st_at4 st_at5 st_at6 cut_scr join_t
set_option maxRecDepth 100000 in
set_option maxHeartbeats 1600000 in
theorem spec_TermNew_any (gw gh lim : Int) (w : World) : Calls Try.prog 33 #[.int .i64 gw, .int .i64 gh, .int .i64 lim] w (AnsT gw gh lim w) := by
  have l1 : w.heap.size < w.heap.size + 1 := by omega
  go_enter Try.func33, Try.ntmps33
  go_wp2_with fail
  refine (spec_ScrNew_any gw gh lim _).mono ?_
  rintro e v1 ⟨s, rfl, ho, hd, hb⟩
  have xr := RowB.below (RowB.new w _ _) hb (by simp)
  have XR := Lib.hid xr
  have HO := Lib.hid (ho.more (base' := w.heap.size + 1) (by simp))
  have HD := Lib.hid hd
  have HB := Lib.hid (show Below w.heap.size w v1 from Below.trans ((Below.refl w.heap.size w).alloc (Nat.le_refl _) _) (hb.mono (by simp)))
  have rz : RowZ v1 w.heap.size 35 := RowZ.of xr 35 rfl
  have z1 : w.heap.size < v1.heap.size := xr.lt
  have hz := hb.size
  clear ho hd hb xr
  go_wp2_with fail
  refine bodyPost_ret (v := .tuple #[.agg (termA ⟨v0, s⟩), .bool (newB gw gh lim)]) (res55b rfl Try.underlying58 rfl size_implTerm _ _ w.heap.size _ _ rfl rfl ((XR.out.alloc _).setRow) rfl) rfl ⟨⟨v0, s⟩, rfl, ⟨v0_own _ _, ?_, fun i _ h => (by cases h)⟩, ?_, ?_⟩
  · exact (((HO.out.below (Nat.le_refl _) ((Below.refl v1.heap.size v1).alloc (Nat.le_refl _) _)).row_ _ _ (by omega)).more (by omega))
  · show TermD.mk _ _ = _
    rw [HD.out]
  · exact below_setRow (HB.out.alloc HB.out.size _) (Nat.le_refl _) _
set_option maxRecDepth 100000 in
set_option maxHeartbeats 1600000 in
theorem impl_TermNew_any (gw gh lim : Int) (w : World) : Calls Try.prog 34 #[.int .i64 gw, .int .i64 gh, .int .i64 lim] w (AnsT gw gh lim w) := by
  have l1 : w.heap.size < w.heap.size + 1 := by omega
  go_enter Try.func34, Try.ntmps34
  go_wp2_with fail
  refine (impl_ScrNew_any gw gh lim _).mono ?_
  rintro e v1 ⟨s, rfl, ho, hd, hb⟩
  have xr := RowB.below (RowB.new w _ _) hb (by simp)
  have XR := Lib.hid xr
  have HO := Lib.hid (ho.more (base' := w.heap.size + 1) (by simp))
  have HD := Lib.hid hd
  have HB := Lib.hid (show Below w.heap.size w v1 from Below.trans ((Below.refl w.heap.size w).alloc (Nat.le_refl _) _) (hb.mono (by simp)))
  have rz : RowZ v1 w.heap.size 35 := RowZ.of xr 35 rfl
  have z1 : w.heap.size < v1.heap.size := xr.lt
  have hz := hb.size
  clear ho hd hb xr
  go_wp2_with fail
  refine bodyPost_ret (v := .tuple #[.agg (termA ⟨v0, s⟩), .bool (newB gw gh lim)]) (res55b rfl Try.underlying58 rfl size_implTerm _ _ w.heap.size _ _ rfl rfl ((XR.out.alloc _).setRow) rfl) rfl ⟨⟨v0, s⟩, rfl, ⟨v0_own _ _, ?_, fun i _ h => (by cases h)⟩, ?_, ?_⟩
  · exact (((HO.out.below (Nat.le_refl _) ((Below.refl v1.heap.size v1).alloc (Nat.le_refl _) _)).row_ _ _ (by omega)).more (by omega))
  · show TermD.mk _ _ = _
    rw [HD.out]
  · exact below_setRow (HB.out.alloc HB.out.size _) (Nat.le_refl _) _
end Go.Proofs.Ytkinkdgnephcbaa.St
