/- A copied screen, in the model. -/
import Derived.Test.YthlpchojlddnbaaScMkL
import Derived.Test.YthlpchojlddnbaaGrCopy
import Derived.Test.YthlpchojlddnbaaAppOne
import Derived.Test.YthlpchojlddnbaaScNewB
import Derived.Test.YthlpchojlddnbaaKiN
namespace Go.Proofs.Ythlpchojlddnbaa.Sc
open Go.RowKit Go.Proofs.Ythlpchojlddnbaa.Bytes Go.Proofs.Ythlpchojlddnbaa.Rows_ Go.Proofs.Ythlpchojlddnbaa.RowK Go.Proofs.Ythlpchojlddnbaa.Gr Go.Proofs.Ythlpchojlddnbaa.DOk Go.Proofs.Ythlpchojlddnbaa.Opq Go.Proofs.Ythlpchojlddnbaa.Attr
set_option linter.unusedVariables false
attribute [local go_sem ↓] Sc.exec_storeS Sc.exec_loadS
attribute [local go_sem] blkOf_ptr isHead_ptr aggN_agg setRow_alloc rowZ_at rowZ_past scrA_size one_scr rowOf_alloc_at rowOf_alloc_past
attribute [local go_sem] scr_at0 scr_at1 scr_at2 scr_at3 scr_at4 scr_at5 scr_at6 scr_at7 scr_at8 scr_at9 scr_at10 scr_at11 scr_at12 scr_at13 scr_at14 scr_at15 scr_at16 scr_at17 scr_at18 scr_at19 scr_at20 scr_at21 scr_at22 scr_at23 scr_at24 scr_at25 scr_at26 scr_at27 scr_at28 scr_at29 scr_at30
theorem setM (s : ScrS) (A : Option Addr) (c : Nat) : (((scrA s).setIfInBounds 2 (.int .i64 s.mw)).setIfInBounds 3 (.int .i64 s.mh)).setIfInBounds 4 (.slice A s.M.cs.length c) = scrA { s with M := ⟨A, c, s.M.cs⟩ } := rfl
theorem setB (s : ScrS) (A : Option Addr) (c : Nat) (rs : List SlC) : (scrA s).setIfInBounds 30 (.slice A rs.length c) = scrA { s with bA := A, bk := c, rows := rs } := rfl
theorem rdK_I {w : World} {B : Nat} {A : Option Addr} {zs : List Int} (h : RdI w B A zs) : RdK 1 w B A (zs.map fun z => [Value.int .i64 z]) := fun hn => by
  obtain ⟨b, o, e, lt, hc⟩ := h (by simpa using hn)
  refine ⟨b, o, e, lt, fun i r hr j u hu => ?_⟩
  rw [List.getElem?_map] at hr
  obtain ⟨z, hz, rfl⟩ := Option.map_eq_some_iff.1 hr
  obtain ⟨hi, rfl⟩ := List.getElem?_eq_some_iff.1 hz
  cases j with
  | zero => simp at hu; subst hu; simpa using hc i hi
  | succ j => simp at hu
theorem iv_flat : ∀ zs : List Int, (zs.map fun z => [Value.int .i64 z]).flatten = iv zs
  | [] => rfl
  | z :: l => by rw [List.map_cons, List.flatten_cons, iv_flat l]; rfl
def SamK (gs rs : List SlC) (k : Nat) : Prop := gs.map (·.cs) = (rs.take k).map (·.cs)
/-- nil slices are empty -/
structure NilS (s : ScrS) : Prop where
  M : s.M.A = none → s.M.cs.length = 0 ∧ s.M.c = 0
  A : s.A.A = none → s.A.cs.length = 0 ∧ s.A.c = 0
  t : s.tA = none → s.tabs.length = 0 ∧ s.tk = 0
  r : ∀ r ∈ s.rows, r.A = none → r.cs.length = 0 ∧ r.c = 0
set_option maxRecDepth 100000 in
set_option maxHeartbeats 1600000 in
theorem l09Copy_any (s : ScrS) (w : World) (hr : RdS w w.heap.size s) (hn : szS s ≤ 1048576) (hi : NilS s) :
    Calls Try.prog 60 #[.agg (scrA s)] w (AnsS s.data w) := by
  have H0 := Lib.hid (((Below.refl w.heap.size w).alloc (Nat.le_refl _) (.cells (scrA s) 53)).alloc (by simp) (.cells (scrA zeroS) 53))
  have B0 := Lib.hid ((RowB.new w (scrA s) 53).alloc (.cells (scrA zeroS) 53))
  have BZ0 := Lib.hid (show RowB ((w.alloc (.cells (scrA s) 53)).alloc (.cells (scrA zeroS) 53)) (w.heap.size + 1) (scrA zeroS) from by have h := RowB.new (w.alloc (.cells (scrA s) 53)) (scrA zeroS) 53; simpa using h)
  have hx0 := B0.out.cell
  have HR := Lib.hid (fun W (h : Below w.heap.size w W) => (hr.below (Nat.le_refl _) h).more h.size)
  have HT := Lib.hid (fun W (h : Below w.heap.size w W) => hr.t.below (Nat.le_refl _) h)
  have HN := Lib.hid hn
  have HI := Lib.hid hi
  have HRr := Lib.hid (fun W (h : Below w.heap.size w W) => hr.r.below (Nat.le_refl _) h)
  have HRc := Lib.hid (fun W (h : Below w.heap.size w W) => hr.rc.below (Nat.le_refl _) h)
  have HCN := Lib.hid (show s.rows.length ≤ 1048576 ∧ ∀ r ∈ s.rows, r.cs.length ≤ 1048576 from ⟨by unfold szS at hn; omega, fun r hr => by have := tot_mem hr; unfold szS at hn; omega⟩)
  clear hr hn hi
  go_enter Try.func60, Try.ntmps60
  go_wp2_with fail
  refine (l07Copy_any s.mw s.mh s.M.A s.M.cs.length s.M.c s.M.cs _ HI.out.M (HR.out _ H0.out).M rfl (by have := HN.out; unfold szS at this; omega)).mono ?_
  rintro e v1 ⟨A1, c1, rfl, ho1, hb1⟩
  have B1 := Lib.hid (B0.out.below hb1 B0.out.lt)
  have H1 := Lib.hid (H0.out.trans (hb1.mono (by simp; omega)))
  have BZ1 := Lib.hid (((BZ0.out.below hb1 BZ0.out.lt).other (b' := w.heap.size) (j := 2) (v := .int .i64 s.mw) (by simp) |>.other (b' := w.heap.size) (j := 3) (v := .int .i64 s.mh) (by simp)).other (b' := w.heap.size) (j := 4) (v := .slice A1 s.M.cs.length c1) (by simp))
  clear BZ0
  have O1 := Lib.hid ho1
  have hx1 := B1.out.cell
  have hf1 := B1.out.free
  have z1 : w.heap.size < v1.heap.size := B1.out.lt
  have z1' : w.heap.size + 1 < v1.heap.size := by have := hb1.size; simp at this; omega
  clear hb1 ho1 hx0
  go_wp2_with fail
  have Bs1 := Lib.hid (show RowB (((v1.setCell ⟨w.heap.size, 2, none⟩ (.int .i64 s.mw)).setCell ⟨w.heap.size, 3, none⟩ (.int .i64 s.mh)).setCell ⟨w.heap.size, 4, none⟩ (.slice A1 s.M.cs.length c1)) w.heap.size (scrA { s with M := ⟨A1, c1, s.M.cs⟩ }) by
    have h := ((B1.out.set (j := 2) (v := .int .i64 s.mw)).set (j := 3) (v := .int .i64 s.mh)).set (j := 4) (v := .slice A1 s.M.cs.length c1)
    rw [setM] at h; exact h)
  have Hs1 := Lib.hid (show Below w.heap.size w (((v1.setCell ⟨w.heap.size, 2, none⟩ (.int .i64 s.mw)).setCell ⟨w.heap.size, 3, none⟩ (.int .i64 s.mh)).setCell ⟨w.heap.size, 4, none⟩ (.slice A1 s.M.cs.length c1)) from ((H1.out.setCell (by simp) _).setCell (by simp) _).setCell (by simp) _)
  have Os1 := Lib.hid (((O1.out.setBox w.heap.size 2 (.int .i64 s.mw) (by simp; omega)).setBox w.heap.size 3 (.int .i64 s.mh) (by simp; omega)).setBox w.heap.size 4 (.slice A1 s.M.cs.length c1) (by simp; omega))
  clear B1 H1 O1 hx1 hf1
  refine (l07Copy_any s.aw s.ah s.A.A s.A.cs.length s.A.c s.A.cs _ HI.out.A (HR.out _ Hs1.out).A rfl (by have := HN.out; unfold szS at this; omega)).mono ?_
  rintro e v2 ⟨A2, c2, rfl, ho2, hb2⟩
  have B2 := Lib.hid (Bs1.out.below hb2 Bs1.out.lt)
  have H2 := Lib.hid (Hs1.out.trans (hb2.mono Hs1.out.size))
  have BZ2 := Lib.hid (((BZ1.out.below hb2 BZ1.out.lt).other (b' := w.heap.size) (j := 5) (v := .int .i64 s.aw) (by simp) |>.other (b' := w.heap.size) (j := 6) (v := .int .i64 s.ah) (by simp)).other (b' := w.heap.size) (j := 7) (v := .slice A2 s.A.cs.length c2) (by simp))
  clear BZ1
  have O12 := Lib.hid (Os1.out.below (Nat.le_refl _) hb2)
  have O2 := Lib.hid ho2
  have z2 : v1.heap.size ≤ v2.heap.size := by have := hb2.size; simpa using this
  have hx2 := B2.out.cell
  have d28 : v2.cell? ⟨w.heap.size, 28, none⟩ = some (.slice s.tA s.tabs.length s.tk) := hx2 28
  have d7 : ∃ u, v2.cell? ⟨w.heap.size, 7, none⟩ = some u := ⟨_, hx2 7⟩
  have d5 : v2.cell? ⟨w.heap.size, 5, none⟩ = some (.int .i64 s.aw) := hx2 5
  have d6 : v2.cell? ⟨w.heap.size, 6, none⟩ = some (.int .i64 s.ah) := hx2 6
  have d7 : v2.cell? ⟨w.heap.size, 7, none⟩ = some (.slice s.A.A s.A.cs.length s.A.c) := hx2 7
  have hf2 := B2.out.free
  have z3 : w.heap.size < v2.heap.size := B2.out.lt
  have z3n : w.heap.size ≠ v2.heap.size := by omega
  have Bs2 := Lib.hid (show RowB (((v2.setCell ⟨w.heap.size, 5, none⟩ (.int .i64 s.aw)).setCell ⟨w.heap.size, 6, none⟩ (.int .i64 s.ah)).setCell ⟨w.heap.size, 7, none⟩ (.slice A2 s.A.cs.length c2)) w.heap.size (scrA { s with M := ⟨A1, c1, s.M.cs⟩, A := ⟨A2, c2, s.A.cs⟩ }) by
    have h := ((B2.out.set (j := 5) (v := .int .i64 s.aw)).set (j := 6) (v := .int .i64 s.ah)).set (j := 7) (v := .slice A2 s.A.cs.length c2)
    exact h)
  have Hs2 := Lib.hid (show Below w.heap.size w (((v2.setCell ⟨w.heap.size, 5, none⟩ (.int .i64 s.aw)).setCell ⟨w.heap.size, 6, none⟩ (.int .i64 s.ah)).setCell ⟨w.heap.size, 7, none⟩ (.slice A2 s.A.cs.length c2)) from ((H2.out.setCell (by simp) _).setCell (by simp) _).setCell (by simp) _)
  have Os1' := Lib.hid (((O12.out.setBox w.heap.size 5 (.int .i64 s.aw) (by simp; omega)).setBox w.heap.size 6 (.int .i64 s.ah) (by simp; omega)).setBox w.heap.size 7 (.slice A2 s.A.cs.length c2) (by simp; omega))
  have Os2 := Lib.hid (((O2.out.setBox w.heap.size 5 (.int .i64 s.aw) (by simp; omega)).setBox w.heap.size 6 (.int .i64 s.ah) (by simp; omega)).setBox w.heap.size 7 (.slice A2 s.A.cs.length c2) (by simp; omega))
  have hown0 : ((((v2.setCell ⟨w.heap.size, 5, none⟩ (.int .i64 s.aw)).setCell ⟨w.heap.size, 6, none⟩ (.int .i64 s.ah)).setCell ⟨w.heap.size, 7, none⟩ (.slice A2 s.A.cs.length c2)).alloc (.cells #[] 3)).ownsRow v2.heap.size 3 1 (.slice (some ⟨v2.heap.size, 0, none⟩) 0 0) 0 [] := by
    have h := own_empty (((v2.setCell ⟨w.heap.size, 5, none⟩ (.int .i64 s.aw)).setCell ⟨w.heap.size, 6, none⟩ (.int .i64 s.ah)).setCell ⟨w.heap.size, 7, none⟩ (.slice A2 s.A.cs.length c2)) 3 1
    simpa using h
  have hr0 : RdK 1 ((((v2.setCell ⟨w.heap.size, 5, none⟩ (.int .i64 s.aw)).setCell ⟨w.heap.size, 6, none⟩ (.int .i64 s.ah)).setCell ⟨w.heap.size, 7, none⟩ (.slice A2 s.A.cs.length c2)).alloc (.cells #[] 3)) w.heap.size s.tA (s.tabs.map fun z => [Value.int .i64 z]) := rdK_I (HT.out _ (Hs2.out.alloc (by simp; omega) _))
  have HAP := Lib.hid (apart_of (x := ⟨A1, c1, s.M.cs⟩) (y := ⟨A2, c2, s.A.cs⟩) Os1.out O2.out (Nat.le_refl _))
  clear hb2 ho2 Bs1 Hs1 Os1 hx2
  go_wp2_with (at_builtin; refine append_rows Try.underlying46 intInfo rfl (by decide) (by decide) rfl _ _ rfl rfl rfl hown0 hr0 (by simp) (by simp [Value.oneCell']) HI.out.t (by rw [List.length_map]) (by omega) (by have := HN.out; unfold szS at this; omega) (by simp) ?_)
  intro A3 c3 v3 ho3 hb3 _
  have hbb : Below v2.heap.size (((v2.setCell ⟨w.heap.size, 5, none⟩ (.int .i64 s.aw)).setCell ⟨w.heap.size, 6, none⟩ (.int .i64 s.ah)).setCell ⟨w.heap.size, 7, none⟩ (.slice A2 s.A.cs.length c2)) v3 := ((Below.refl _ _).alloc (by simp) (.cells #[] 3)).trans hb3
  have H3 := Lib.hid (Hs2.out.trans (hbb.mono (by omega)))
  have B3 := Lib.hid (Bs2.out.below hbb (by omega))
  have z1v : w.heap.size + 1 < v2.heap.size := by omega
  have BZ3 := Lib.hid (BZ2.out.below hbb z1v)
  clear BZ2
  have O13 := Lib.hid (Os1'.out.below (by simp) hbb)
  have O23 := Lib.hid (Os2.out.below (by simp) hbb)
  have z4 : v2.heap.size ≤ v3.heap.size := by have := hbb.size; simpa using this
  have zb : w.heap.size + 1 < v3.heap.size := by omega
  have zb' : w.heap.size < v3.heap.size := by omega
  have OT3 := Lib.hid (show OwnI v3 v2.heap.size A3 s.tabs.length c3 s.tabs from by
    have h := ho3
    (try simp only [Nat.zero_add, List.nil_append] at h)
    unfold OwnI; rw [← iv_flat]; exact h)
  clear hbb hb3 ho3 hown0 hr0 Bs2 Hs2 Os1' Os2 d28 d5 d6 d7 hf2 B2 H2 O12 O2 HR HT B0 H0
  have e30 : v3.cell? ⟨w.heap.size, 30, none⟩ = some (.slice s.bA s.rows.length s.bk) := B3.out.cell 30
  have e28 : v3.cell? ⟨w.heap.size, 28, none⟩ = some (.slice s.tA s.tabs.length s.tk) := B3.out.cell 28
  have e28f := B3.out.free 28
  go_wp2_with fail
  obtain ⟨iR, hiR, hzR0, hzR1, hzR2⟩ := info_parts rowInfo
  go_loopw [3, 5, 23] (fun v p i wr => ∃ (k : Nat) (gs : List SlC) (A : Option Addr) (c : Nat), k ≤ s.rows.length ∧ v = .slice A k c ∧ i = .int .i64 k ∧ wr.ownsRow v3.heap.size 115 1 (.slice A k c) k (gs.map rowR).flatten ∧ SamK gs s.rows k ∧ OwnCs wr v3.heap.size gs ∧ Below v3.heap.size (v3.setCell ⟨w.heap.size, 28, none⟩ (.slice A3 s.tabs.length c3)) wr) (fun _ _ i _ => s.rows.length - (intOf i).toNat)
  case atStart =>
    refine ⟨0, [], _, 0, Nat.zero_le _, rfl, rfl, ?_, rfl, OwnCs.nil _ _, (Below.refl _ _).alloc (by simp) _⟩
    have h := own_empty (v3.setCell ⟨w.heap.size, 28, none⟩ (.slice A3 s.tabs.length c3)) 115 1
    simpa using h
  case round =>
    obtain ⟨k, gs, A, c, hk, rfl, rfl, ho, HK, hgs, hb⟩ := hrel
    have hz : v3.heap.size ≤ wr.heap.size := by have := hb.size; simpa using this
    have HB := Lib.hid hb
    have HO := Lib.hid ho
    have HG := Lib.hid hgs
    clear hb ho hgs
    by_cases hlt : k < s.rows.length
    · have H3r := Lib.hid (show Below w.heap.size w wr from (H3.out.setCell (by simp) _).trans (HB.out.mono (by omega)))
      obtain ⟨b, o, hbA, hB, hc0⟩ := (HRr.out _ H3r.out).at_ hlt
      have hrm : s.rows[k] ∈ s.rows := List.getElem_mem hlt
      have HTK := Lib.hid (show (s.rows.take (k + 1)).map (·.cs) = (s.rows.take k).map (·.cs) ++ [s.rows[k].cs] by rw [List.take_succ_eq_append_getElem hlt, List.map_append]; rfl)
      generalize s.rows[k] = r at *
      have HNK := Lib.hid (HI.out.r r hrm)
      have hrn := HCN.out.2 r hrm
      have hnn := HCN.out.1
      have HRB := Lib.hid ((HRc.out _ H3r.out) r hrm)
      have HAL := Lib.hid (((Below.refl wr.heap.size wr).alloc (Nat.le_refl _) (.cells #[.slice r.A r.cs.length r.c] 115)).alloc (by simp) (.cells #[] 37))
      have hown0 : ((wr.alloc (.cells #[.slice r.A r.cs.length r.c] 115)).alloc (.cells #[] 37)).ownsRow (wr.heap.size + 1) 37 6 (.slice (some ⟨wr.heap.size + 1, 0, none⟩) 0 0) 0 [] := by
        have h := own_empty (wr.alloc (.cells #[.slice r.A r.cs.length r.c] 115)) 37 6
        simpa using h
      have hr0 : RdK 6 ((wr.alloc (.cells #[.slice r.A r.cs.length r.c] 115)).alloc (.cells #[] 37)) w.heap.size r.A (r.cs.map cellR) := RdC.below HRB.out (B' := wr.heap.size) (by omega) HAL.out
      have hbw : b < wr.heap.size := by omega
      go_wp2_with (at_builtin; refine append_rows Try.underlying30 cellInfo rfl (by decide) (by decide) rfl _ _ rfl rfl rfl hown0 hr0 (cell_len _) (one_cell _) HNK.out (by rw [List.length_map]) (by omega) (by omega) (by simp) ?_)
      intro A2 c2 w5 ho5 hb5 _
      have hb5' : Below wr.heap.size wr w5 := HAL.out.trans (hb5.mono (by simp))
      have HO5 := Lib.hid (show OwnC w5 (wr.heap.size + 1) A2 r.cs.length c2 r.cs by unfold OwnC; simpa using ho5)
      have HOw5 := Lib.hid (own_belowK HO.out (Nat.le_refl _) hb5')
      have HG5 := Lib.hid (HG.out.below (Nat.le_refl _) hb5')
      have HB5 := Lib.hid (HB.out.trans (hb5'.mono hz))
      have hz5 : v3.heap.size ≤ w5.heap.size := by have := hb5'.size; omega
      clear hown0 hr0 hb5 hb5' ho5
      go_wp2_with (at_builtin; refine AppOne.append_one Try.underlying51 hiR hzR0 hzR1 hzR2 rfl (by decide) rfl _ _ rfl rfl w5.heap.size rfl rfl HOw5.out rfl (by omega) (by omega) ?_)
      intro A' c' w6 ho6 hg6 _
      have HO6 := Lib.hid (show w6.ownsRow v3.heap.size 115 1 (.slice A' (k + 1) c') (k + 1) ((gs ++ [(⟨A2, c2, r.cs⟩ : SlC)]).map rowR).flatten by rw [List.map_append, List.flatten_append]; exact ho6)
      have on6 : Only (fun i => (Value.slice A k c).ownBlock = some i) w5 w6 := Only.grown hg6 (fun i e => e)
      have HNEW := Lib.hid (show OwnC w6 (wr.heap.size + 1) A2 r.cs.length c2 r.cs from HO5.out.only on6 (fun i hi hs => own_ne HO5.out HOw5.out (by decide) i hi hs))
      have HG6 := Lib.hid (show OwnCs w6 v3.heap.size gs from HG5.out.only on6 (fun x hx g hg hs => own_ne (HG5.out.1 x hx) HOw5.out (by decide) g hg hs))
      have HG7 := Lib.hid (show OwnCs w6 v3.heap.size (gs ++ [(⟨A2, c2, r.cs⟩ : SlC)]) from ⟨fun x hx => by
        rcases List.mem_append.1 hx with hx | hx
        · exact HG6.out.1 x hx
        · rw [List.mem_singleton] at hx; subst hx; exact HNEW.out.more (by omega), List.pairwise_append.2 ⟨HG6.out.2, List.pairwise_singleton _ _, fun a ha b hb => by
          rw [List.mem_singleton] at hb; subst hb; exact apart_of (HG.out.1 a ha) (y := ⟨A2, c2, r.cs⟩) HNEW.out (by omega)⟩⟩)
      have HB6 := Lib.hid (HB5.out.grown hg6 hz5 (fun g hg => (World.ownsRow.lt HOw5.out g hg).1))
      have HK6 : SamK (gs ++ [(⟨A2, c2, r.cs⟩ : SlC)]) s.rows (k + 1) := by unfold SamK at HK ⊢; rw [List.map_append, HK, HTK.out]; rfl
      clear on6 hg6 ho6
      go_wp2_with fail
      rw [hbA]
      exact ⟨⟨_, _, .int .i64 ((k : Int) + 1), _, _, _, _, _, _, _, _, _, _, _, _, ⟨k + 1, gs ++ [(⟨A2, c2, r.cs⟩ : SlC)], A', c', by omega, rfl, by go_num, HO6.out, HK6, HG7.out, HB6.out⟩, rfl⟩, by simp [intOf]; omega⟩
    · obtain rfl : s.rows.length = k := by omega
      have eT : s.rows.take s.rows.length = s.rows := List.take_length
      have HKF := Lib.hid (show gs.map (·.cs) = s.rows.map (·.cs) by unfold SamK at HK; rw [HK, eT])
      have hgl : gs.length = s.rows.length := by have := congrArg List.length HKF.out; simpa using this
      have HGL := Lib.hid hgl
      clear eT hgl HK
      have HRW := Lib.hid (show RowB wr w.heap.size (scrA { s with M := ⟨A1, c1, s.M.cs⟩, A := ⟨A2, c2, s.A.cs⟩, tA := A3, tk := c3 }) from RowB.below (B3.out.set (j := 28) (v := .slice A3 s.tabs.length c3)) HB.out zb')
      have HR5 := Lib.hid (OwnR.of HO.out)
      have HZ := Lib.hid (show RowB wr (w.heap.size + 1) (scrA zeroS) from RowB.below ((BZ3.out.other (by simp)) : RowB (v3.setCell ⟨w.heap.size, 28, none⟩ (.slice A3 s.tabs.length c3)) (w.heap.size + 1) (scrA zeroS)) HB.out zb)
      have q30 : wr.cell? ⟨w.heap.size, 30, none⟩ = some (.slice s.bA s.rows.length s.bk) := HRW.out.cell 30
      have q30f := HRW.out.free 30
      have HRW2 := Lib.hid (show RowB (wr.setCell ⟨w.heap.size, 30, none⟩ (.slice A gs.length c)) w.heap.size (scrA { s with M := ⟨A1, c1, s.M.cs⟩, A := ⟨A2, c2, s.A.cs⟩, tA := A3, tk := c3, bA := A, bk := c, rows := gs }) from by
        have h := HRW.out.set (j := 30) (v := .slice A gs.length c)
        rw [setB { s with M := ⟨A1, c1, s.M.cs⟩, A := ⟨A2, c2, s.A.cs⟩, tA := A3, tk := c3 } A c gs] at h; exact h)
      have HZ2 := Lib.hid (show RowZ (wr.setCell ⟨w.heap.size, 30, none⟩ (.slice A gs.length c)) (w.heap.size + 1) 31 from RowZ.of (HZ.out.other (by simp)) 31 rfl)
      rw [← HGL.out] at *
      have row5 := HRW2.out.row
      have rz5 := HZ2.out
      go_wp2_with fail
      have HF : OwnS wr (w.heap.size + 2) { s with M := ⟨A1, c1, s.M.cs⟩, A := ⟨A2, c2, s.A.cs⟩, tA := A3, tk := c3, bA := A, bk := c, rows := gs } := by
        have o1 := (own_setK O13.out w.heap.size 28 (.slice A3 s.tabs.length c3) (by simp; omega))
        have o2 := (own_setK O23.out w.heap.size 28 (.slice A3 s.tabs.length c3) (by simp; omega))
        have o3 := (own_setK OT3.out w.heap.size 28 (.slice A3 s.tabs.length c3) (by omega))
        have o1' := own_moreK (base' := w.heap.size + 2) (own_belowK o1 (by simp) HB.out) (by simp)
        have o2' := own_moreK (base' := w.heap.size + 2) (own_belowK o2 (by simp) HB.out) (by simp; omega)
        have o3' := own_moreK (base' := w.heap.size + 2) (own_belowK o3 (by simp) HB.out) (by omega)
        refine ⟨⟨?_, ?_⟩, o3', (HR5.out.more (by omega))⟩
        · intro r hr
          rcases List.mem_cons.1 hr with rfl | hr
          · exact o1'
          · rcases List.mem_cons.1 hr with rfl | hr
            · exact o2'
            · exact (HG.out.1 r hr).more (by omega)
        · refine List.pairwise_cons.2 ⟨fun y hy => ?_, List.pairwise_cons.2 ⟨fun y hy => ?_, HG.out.2⟩⟩
          · rcases List.mem_cons.1 hy with rfl | hy
            · exact HAP.out
            · exact apart_of (x := ⟨A1, c1, s.M.cs⟩) O13.out (HG.out.1 y hy) (Nat.le_refl _)
          · exact apart_of (x := ⟨A2, c2, s.A.cs⟩) O23.out (HG.out.1 y hy) (Nat.le_refl _)
      refine bodyPost_ret (v := .agg (scrA { s with M := ⟨A1, c1, s.M.cs⟩, A := ⟨A2, c2, s.A.cs⟩, tA := A3, tk := c3, bA := A, bk := c, rows := gs })) (res55 Try.results60 _ _ (w.heap.size + 1) _ (by simp) (RowB.setRow (HZ.out.other (by simp))) rfl) rfl ⟨_, rfl, ?_, ?_, ?_⟩
      · exact ((HF.set_ _ _ _ (by omega)).row_ _ _ (by omega)).more (by omega)
      · unfold ScrS.data; simp only [HKF.out]
      · exact below_setRow (((H3.out.setCell (by simp) _).trans (HB.out.mono (by omega))).setCell (by simp) _) (by omega) _
end Go.Proofs.Ythlpchojlddnbaa.Sc

