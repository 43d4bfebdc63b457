/- spec.Shown: what the model shows. -/
import Derived.Test.YtmccggjogoaakaaKiP
namespace Go.Proofs.Ytmccggjogoaakaa.Sc
open Go.RowKit Go.Proofs.Ytmccggjogoaakaa.Bytes Go.Proofs.Ytmccggjogoaakaa.Rows_ Go.Proofs.Ytmccggjogoaakaa.RowK Go.Proofs.Ytmccggjogoaakaa.Gr Go.Proofs.Ytmccggjogoaakaa.DOk Go.Proofs.Ytmccggjogoaakaa.Opq Go.Proofs.Ytmccggjogoaakaa.Attr
set_option linter.unusedVariables false
attribute [local go_sem ↓] Sc.exec_storeS Sc.exec_loadS
attribute [local go_sem] blkOf_ptr isHead_ptr aggN_agg setRow_alloc rowZ_at rowZ_past scrA_size one_scr rowOf_alloc_at rowOf_alloc_past
attribute [local go_sem] scr_at0 scr_at1 scr_at2 scr_at3 scr_at4 scr_at5 scr_at6 scr_at7 scr_at8 scr_at9 scr_at10 scr_at11 scr_at12 scr_at13 scr_at14 scr_at15 scr_at16 scr_at17 scr_at18 scr_at19 scr_at20 scr_at21 scr_at22 scr_at23 scr_at24 scr_at25 scr_at26 scr_at27 scr_at28 scr_at29 scr_at30
set_option maxRecDepth 100000 in
set_option maxHeartbeats 1600000 in
theorem spec_Shown_any (s : ScrS) (w : World) (hr : RdS w w.heap.size s) (hn : szS s ≤ 1048576) (hA : (shC s).A = none → (shC s).cs.length = 0 ∧ (shC s).c = 0) : Calls Try.prog 25 #[.agg (scrA s)] w (AnsSh s.data w) := by
  have H0 := Lib.hid ((Below.refl w.heap.size w).alloc (Nat.le_refl _) (.cells (scrA s) 45))
  have B0 := Lib.hid (RowB.new w (scrA s) 45)
  have row0 := B0.out.row
  have HR := Lib.hid (fun W (h : Below w.heap.size w W) => (hr.below (Nat.le_refl _) h).more h.size)
  have HOK := Lib.hid (fun W (h : Below w.heap.size w W) => spec_ScrOk_any s W (HR.out W h) hn)
  have HLN := Lib.hid (shC_len hn)
  have HNA := Lib.hid hA
  clear hr hn hA
  have X1 := Lib.hid (BoxG.new (w.alloc (.cells (scrA s) 45)) #[.int .i64 0, .int .i64 0, .slice none 0 0])
  have H1 := Lib.hid (H0.out.alloc (by simp) (.cells #[.int .i64 0, .int .i64 0, .slice none 0 0] 28))
  have B1 := Lib.hid (B0.out.alloc (.cells #[.int .i64 0, .int .i64 0, .slice none 0 0] 28))
  go_enter Try.func25, Try.ntmps25
  go_wp2_with fail
  refine (HOK.out _ H1.out).mono ?_
  rintro e v1 ⟨rfl, hb1⟩
  have x1 := X1.out.below hb1 (by simp)
  have B2 := Lib.hid (B1.out.below hb1 (by simp; omega))
  have H2 := Lib.hid (H1.out.trans (hb1.mono (by simp; omega)))
  have X2 := Lib.hid x1
  have z1 : w.heap.size + 1 < v1.heap.size := by have := hb1.size; simp at this; omega
  clear hb1 x1 row0
  have row1 := B2.out.row
  cases hok : okD s.data
  · have HN := Lib.hid (shG_no hok)
    have x1 := X2.out
    have p0 : v1.cell? ⟨w.heap.size + 1, 0, none⟩ = some (.int .i64 0) := by have := x1.cell 0; simpa using this
    have p1 : v1.cell? ⟨w.heap.size + 1, 1, none⟩ = some (.int .i64 0) := by have := x1.cell 1; simpa using this
    have p2 : v1.cell? ⟨w.heap.size + 1, 2, none⟩ = some (.slice none 0 0) := by have := x1.cell 2; simpa using this
    have g0 : v1.frozen? ⟨w.heap.size + 1, 0, none⟩ = false := by have := x1.free 0; simpa using this
    have g1 : v1.frozen? ⟨w.heap.size + 1, 1, none⟩ = false := by have := x1.free 1; simpa using this
    have g2 : v1.frozen? ⟨w.heap.size + 1, 2, none⟩ = false := by have := x1.free 2; simpa using this
    clear x1
    go_wp2_with fail
    refine bodyPost_ret (v := .agg #[.int .i64 0, .int .i64 0, .slice none 0 0]) (by simp [results, Try.results25, go_sem, p0, p1, p2]) rfl ?_
    unfold AnsSh
    rw [HN.out]
    refine ⟨none, 0, rfl, World.ownsRow_nil _ _ _ _, ?_⟩
    exact ((H2.out.setCell (by simp) _).setCell (by simp) _).setCell (by simp) _
  · have HN := Lib.hid (shG_yes hok)
    clear hok
    go_wp2_with fail
    refine (l09Shown_any s _).mono ?_
    rintro e v2 ⟨rfl, hb2⟩
    have X3 := Lib.hid (X2.out.below hb2 (by simp; omega))
    have H3 := Lib.hid (H2.out.trans (hb2.mono (by omega)))
    have z2 : w.heap.size + 1 < v2.heap.size := by have := hb2.size; omega
    have RD := Lib.hid (shC_rd (HR.out _ H3.out))
    clear hb2 row1 X2 B2 X1 B1 B0 H1 H0
    go_wp2_with fail
    refine (l07Copy_any (shW s) (shH s) (shC s).A (shC s).cs.length (shC s).c (shC s).cs _ HNA.out RD.out rfl (by have := HLN.out; omega)).mono ?_
    rintro e v3 ⟨A3, c3, rfl, ho3, hb3⟩
    have x1 := X3.out.below hb3 (by simp; omega)
    have HO := Lib.hid ho3
    have H4 := Lib.hid (H3.out.trans (hb3.mono (by omega)))
    clear hb3 ho3
    have p0 : v3.cell? ⟨w.heap.size + 1, 0, none⟩ = some (.int .i64 0) := by have := x1.cell 0; simpa using this
    have p1 : v3.cell? ⟨w.heap.size + 1, 1, none⟩ = some (.int .i64 0) := by have := x1.cell 1; simpa using this
    have p2 : v3.cell? ⟨w.heap.size + 1, 2, none⟩ = some (.slice none 0 0) := by have := x1.cell 2; simpa using this
    have g0 : v3.frozen? ⟨w.heap.size + 1, 0, none⟩ = false := by have := x1.free 0; simpa using this
    have g1 : v3.frozen? ⟨w.heap.size + 1, 1, none⟩ = false := by have := x1.free 1; simpa using this
    have g2 : v3.frozen? ⟨w.heap.size + 1, 2, none⟩ = false := by have := x1.free 2; simpa using this
    clear x1
    go_wp2_with fail
    refine bodyPost_ret (v := .agg #[.int .i64 (shW s), .int .i64 (shH s), .slice A3 (shC s).cs.length c3]) (by simp [results, Try.results25, go_sem, p0, p1, p2]) rfl ?_
    unfold AnsSh
    rw [HN.out]
    refine ⟨A3, c3, rfl, ?_, ?_⟩
    · exact ((HO.out.setBox (w.heap.size + 1) 0 _ (by omega)).setBox (w.heap.size + 1) 1 _ (by omega)).setBox (w.heap.size + 1) 2 _ (by omega) |>.more (by omega)
    · exact ((H4.out.setCell (by simp) _).setCell (by simp) _).setCell (by simp) _
end Go.Proofs.Ytmccggjogoaakaa.Sc

