/- The laws' helper that copies a screen. -/
import Derived.Test.YthlpchojlddnbaaScTo
import Derived.Test.YthlpchojlddnbaaScO
import Derived.Test.YthlpchojlddnbaaAttr
import Derived.Deep.DrawnRows
namespace Go.Proofs.Ythlpchojlddnbaa.Sc
open Go.RowKit Go.Proofs.Ythlpchojlddnbaa.Bytes Go.Proofs.Ythlpchojlddnbaa.Rows_ Go.Proofs.Ythlpchojlddnbaa.RowK Go.Proofs.Ythlpchojlddnbaa.Gr Go.Proofs.Ythlpchojlddnbaa.DOk Go.Proofs.Ythlpchojlddnbaa.Opq Go.Proofs.Ythlpchojlddnbaa.Attr
set_option linter.unusedVariables false
attribute [local go_sem ↓] Sc.exec_loadS Sc.exec_storeS
attribute [local go_sem] RowZ.set rowOf_set blkOf_ptr isHead_ptr aggN_agg
def szS (s : ScrS) : Nat := s.M.cs.length + s.A.cs.length + s.tabs.length + (s.rows.length + tot s.rows)
set_option maxRecDepth 100000 in
set_option maxHeartbeats 16000000 in
theorem toScr_any (s : ScrS) (w : World) (hr : RdS w w.heap.size s) (hn : szS s ≤ 1048576) : Calls Try.prog 24 #[.agg (scrA s)] w (AnsS s.data w) := by
  obtain ⟨w_, h_, mw_, mh_, ⟨MA_, Mc_, Ms_⟩, aw_, ah_, ⟨AA_, Ac_, As_⟩, onAlt_, x_, y_, wrap_, fg_, bg_, b_, u_, t_, top_, bot_, noWrap_, hide_, sx_, sy_, sfg_, sbg_, sb_, su_, st_, tabsA_, tabsc_, tabs_, lim_, rowsA_, rowsc_, rows_⟩ := s
  obtain ⟨d, hd⟩ : ∃ d, d = ScrS.data ⟨w_, h_, mw_, mh_, ⟨MA_, Mc_, Ms_⟩, aw_, ah_, ⟨AA_, Ac_, As_⟩, onAlt_, x_, y_, wrap_, fg_, bg_, b_, u_, t_, top_, bot_, noWrap_, hide_, sx_, sy_, sfg_, sbg_, sb_, su_, st_, tabsA_, tabsc_, tabs_, lim_, rowsA_, rowsc_, rows_⟩ := ⟨_, rfl⟩
  rw [← hd]
  have HD := Lib.hid hd
  clear hd
  have HM := Lib.hid hr.M
  have HA := Lib.hid hr.A
  have HT := Lib.hid hr.t
  have HR := Lib.hid hr.r
  have HC := Lib.hid hr.rc
  simp only [] at HM HA HT HR HC
  have HCN := Lib.hid (show ∀ r ∈ rows_, r.cs.length ≤ 2097152 from fun r hr => by have := tot_mem hr; unfold szS at hn; simp only [] at hn; omega)
  unfold szS at hn
  simp only [] at hn
  have n1 : Ms_.length ≤ 1048576 := by omega
  have n2 : As_.length ≤ 1048576 := by omega
  have n3 : tabs_.length ≤ 1048576 := by omega
  have n4 : rows_.length ≤ 1048576 := by omega
  clear hn hr
  show Calls _ _ #[.agg #[.int .i64 w_, .int .i64 h_, .int .i64 mw_, .int .i64 mh_, .slice MA_ Ms_.length Mc_, .int .i64 aw_, .int .i64 ah_, .slice AA_ As_.length Ac_, .bool onAlt_, .int .i64 x_, .int .i64 y_, .bool wrap_, .int .i64 fg_, .int .i64 bg_, .bool b_, .bool u_, .bool t_, .int .i64 top_, .int .i64 bot_, .bool noWrap_, .bool hide_, .int .i64 sx_, .int .i64 sy_, .int .i64 sfg_, .int .i64 sbg_, .bool sb_, .bool su_, .bool st_, .slice tabsA_ tabs_.length tabsc_, .int .i64 lim_, .slice rowsA_ rows_.length rowsc_]] w _
  have hb0 := Lib.hid ((((Below.refl w.heap.size w).alloc (Nat.le_refl _) (.cells #[.int .i64 w_, .int .i64 h_, .int .i64 mw_, .int .i64 mh_, .slice MA_ Ms_.length Mc_, .int .i64 aw_, .int .i64 ah_, .slice AA_ As_.length Ac_, .bool onAlt_, .int .i64 x_, .int .i64 y_, .bool wrap_, .int .i64 fg_, .int .i64 bg_, .bool b_, .bool u_, .bool t_, .int .i64 top_, .int .i64 bot_, .bool noWrap_, .bool hide_, .int .i64 sx_, .int .i64 sy_, .int .i64 sfg_, .int .i64 sbg_, .bool sb_, .bool su_, .bool st_, .slice tabsA_ tabs_.length tabsc_, .int .i64 lim_, .slice rowsA_ rows_.length rowsc_] 49)).alloc (by simp) (.cells #[.int .i64 0, .int .i64 0, .int .i64 0, .int .i64 0, .slice none 0 0, .int .i64 0, .int .i64 0, .slice none 0 0, .bool false, .int .i64 0, .int .i64 0, .bool false, .int .i64 0, .int .i64 0, .bool false, .bool false, .bool false, .int .i64 0, .int .i64 0, .bool false, .bool false, .int .i64 0, .int .i64 0, .int .i64 0, .int .i64 0, .bool false, .bool false, .bool false, .slice none 0 0, .int .i64 0, .slice none 0 0] 53)).alloc (by simp; omega) (.cells #[.int .i64 w_, .int .i64 h_, .int .i64 0, .int .i64 0, .slice none 0 0, .int .i64 0, .int .i64 0, .slice none 0 0, .bool false, .int .i64 0, .int .i64 0, .bool false, .int .i64 0, .int .i64 0, .bool false, .bool false, .bool false, .int .i64 0, .int .i64 0, .bool false, .bool false, .int .i64 0, .int .i64 0, .int .i64 0, .int .i64 0, .bool false, .bool false, .bool false, .slice none 0 0, .int .i64 0, .slice none 0 0] 53))
  have BA := Lib.hid (((RowB.new w #[.int .i64 w_, .int .i64 h_, .int .i64 mw_, .int .i64 mh_, .slice MA_ Ms_.length Mc_, .int .i64 aw_, .int .i64 ah_, .slice AA_ As_.length Ac_, .bool onAlt_, .int .i64 x_, .int .i64 y_, .bool wrap_, .int .i64 fg_, .int .i64 bg_, .bool b_, .bool u_, .bool t_, .int .i64 top_, .int .i64 bot_, .bool noWrap_, .bool hide_, .int .i64 sx_, .int .i64 sy_, .int .i64 sfg_, .int .i64 sbg_, .bool sb_, .bool su_, .bool st_, .slice tabsA_ tabs_.length tabsc_, .int .i64 lim_, .slice rowsA_ rows_.length rowsc_] 49).alloc (.cells #[.int .i64 0, .int .i64 0, .int .i64 0, .int .i64 0, .slice none 0 0, .int .i64 0, .int .i64 0, .slice none 0 0, .bool false, .int .i64 0, .int .i64 0, .bool false, .int .i64 0, .int .i64 0, .bool false, .bool false, .bool false, .int .i64 0, .int .i64 0, .bool false, .bool false, .int .i64 0, .int .i64 0, .int .i64 0, .int .i64 0, .bool false, .bool false, .bool false, .slice none 0 0, .int .i64 0, .slice none 0 0] 53)).alloc (.cells #[.int .i64 w_, .int .i64 h_, .int .i64 0, .int .i64 0, .slice none 0 0, .int .i64 0, .int .i64 0, .slice none 0 0, .bool false, .int .i64 0, .int .i64 0, .bool false, .int .i64 0, .int .i64 0, .bool false, .bool false, .bool false, .int .i64 0, .int .i64 0, .bool false, .bool false, .int .i64 0, .int .i64 0, .int .i64 0, .int .i64 0, .bool false, .bool false, .bool false, .slice none 0 0, .int .i64 0, .slice none 0 0] 53))
  have br := ((RowB.new (w.alloc (.cells #[.int .i64 w_, .int .i64 h_, .int .i64 mw_, .int .i64 mh_, .slice MA_ Ms_.length Mc_, .int .i64 aw_, .int .i64 ah_, .slice AA_ As_.length Ac_, .bool onAlt_, .int .i64 x_, .int .i64 y_, .bool wrap_, .int .i64 fg_, .int .i64 bg_, .bool b_, .bool u_, .bool t_, .int .i64 top_, .int .i64 bot_, .bool noWrap_, .bool hide_, .int .i64 sx_, .int .i64 sy_, .int .i64 sfg_, .int .i64 sbg_, .bool sb_, .bool su_, .bool st_, .slice tabsA_ tabs_.length tabsc_, .int .i64 lim_, .slice rowsA_ rows_.length rowsc_] 49)) #[.int .i64 0, .int .i64 0, .int .i64 0, .int .i64 0, .slice none 0 0, .int .i64 0, .int .i64 0, .slice none 0 0, .bool false, .int .i64 0, .int .i64 0, .bool false, .int .i64 0, .int .i64 0, .bool false, .bool false, .bool false, .int .i64 0, .int .i64 0, .bool false, .bool false, .int .i64 0, .int .i64 0, .int .i64 0, .int .i64 0, .bool false, .bool false, .bool false, .slice none 0 0, .int .i64 0, .slice none 0 0] 53).alloc (.cells #[.int .i64 w_, .int .i64 h_, .int .i64 0, .int .i64 0, .slice none 0 0, .int .i64 0, .int .i64 0, .slice none 0 0, .bool false, .int .i64 0, .int .i64 0, .bool false, .int .i64 0, .int .i64 0, .bool false, .bool false, .bool false, .int .i64 0, .int .i64 0, .bool false, .bool false, .int .i64 0, .int .i64 0, .int .i64 0, .int .i64 0, .bool false, .bool false, .bool false, .slice none 0 0, .int .i64 0, .slice none 0 0] 53))
  simp only [World.size_alloc] at br
  have BR := Lib.hid br
  clear br
  have bo := (RowB.new ((w.alloc (.cells #[.int .i64 w_, .int .i64 h_, .int .i64 mw_, .int .i64 mh_, .slice MA_ Ms_.length Mc_, .int .i64 aw_, .int .i64 ah_, .slice AA_ As_.length Ac_, .bool onAlt_, .int .i64 x_, .int .i64 y_, .bool wrap_, .int .i64 fg_, .int .i64 bg_, .bool b_, .bool u_, .bool t_, .int .i64 top_, .int .i64 bot_, .bool noWrap_, .bool hide_, .int .i64 sx_, .int .i64 sy_, .int .i64 sfg_, .int .i64 sbg_, .bool sb_, .bool su_, .bool st_, .slice tabsA_ tabs_.length tabsc_, .int .i64 lim_, .slice rowsA_ rows_.length rowsc_] 49)).alloc (.cells #[.int .i64 0, .int .i64 0, .int .i64 0, .int .i64 0, .slice none 0 0, .int .i64 0, .int .i64 0, .slice none 0 0, .bool false, .int .i64 0, .int .i64 0, .bool false, .int .i64 0, .int .i64 0, .bool false, .bool false, .bool false, .int .i64 0, .int .i64 0, .bool false, .bool false, .int .i64 0, .int .i64 0, .int .i64 0, .int .i64 0, .bool false, .bool false, .bool false, .slice none 0 0, .int .i64 0, .slice none 0 0] 53)) #[.int .i64 w_, .int .i64 h_, .int .i64 0, .int .i64 0, .slice none 0 0, .int .i64 0, .int .i64 0, .slice none 0 0, .bool false, .int .i64 0, .int .i64 0, .bool false, .int .i64 0, .int .i64 0, .bool false, .bool false, .bool false, .int .i64 0, .int .i64 0, .bool false, .bool false, .int .i64 0, .int .i64 0, .int .i64 0, .int .i64 0, .bool false, .bool false, .bool false, .slice none 0 0, .int .i64 0, .slice none 0 0] 53)
  simp only [World.size_alloc] at bo
  have BO := Lib.hid bo
  clear bo
  go_enter Try.func24, Try.ntmps24
  have HBV := hb0
  go_wp2_with fail
  refine (toGrid_any mw_ mh_ MA_ Ms_.length Mc_ Ms_ _ ((HM.out.below (Nat.le_refl _) HBV.out).more HBV.out.size) rfl (by omega)).mono ?_
  rintro e v1 ⟨A1, c1, rfl, ho1, hb1⟩
  have HB1 := Lib.hid (HBV.out.trans (hb1.mono HBV.out.size))
  clear HBV
  have BA1 := Lib.hid (BA.out.below hb1 BA.out.lt)
  have BR1 := Lib.hid (BR.out.below hb1 BR.out.lt)
  have BO1 := Lib.hid (BO.out.below hb1 BO.out.lt)
  have zo1 : w.heap.size + 1 + 1 < v1.heap.size := BO1.out.lt
  have zr1 : w.heap.size + 1 < v1.heap.size := BR1.out.lt
  have za1 : w.heap.size < v1.heap.size := BA1.out.lt
  have hsz : w.heap.size + 3 ≤ (((w.alloc (.cells #[.int .i64 w_, .int .i64 h_, .int .i64 mw_, .int .i64 mh_, .slice MA_ Ms_.length Mc_, .int .i64 aw_, .int .i64 ah_, .slice AA_ As_.length Ac_, .bool onAlt_, .int .i64 x_, .int .i64 y_, .bool wrap_, .int .i64 fg_, .int .i64 bg_, .bool b_, .bool u_, .bool t_, .int .i64 top_, .int .i64 bot_, .bool noWrap_, .bool hide_, .int .i64 sx_, .int .i64 sy_, .int .i64 sfg_, .int .i64 sbg_, .bool sb_, .bool su_, .bool st_, .slice tabsA_ tabs_.length tabsc_, .int .i64 lim_, .slice rowsA_ rows_.length rowsc_] 49)).alloc (.cells #[.int .i64 0, .int .i64 0, .int .i64 0, .int .i64 0, .slice none 0 0, .int .i64 0, .int .i64 0, .slice none 0 0, .bool false, .int .i64 0, .int .i64 0, .bool false, .int .i64 0, .int .i64 0, .bool false, .bool false, .bool false, .int .i64 0, .int .i64 0, .bool false, .bool false, .int .i64 0, .int .i64 0, .int .i64 0, .int .i64 0, .bool false, .bool false, .bool false, .slice none 0 0, .int .i64 0, .slice none 0 0] 53)).alloc (.cells #[.int .i64 w_, .int .i64 h_, .int .i64 0, .int .i64 0, .slice none 0 0, .int .i64 0, .int .i64 0, .slice none 0 0, .bool false, .int .i64 0, .int .i64 0, .bool false, .int .i64 0, .int .i64 0, .bool false, .bool false, .bool false, .int .i64 0, .int .i64 0, .bool false, .bool false, .int .i64 0, .int .i64 0, .int .i64 0, .int .i64 0, .bool false, .bool false, .bool false, .slice none 0 0, .int .i64 0, .slice none 0 0] 53)).heap.size := by simp
  have OM := Lib.hid (ho1.more (base' := w.heap.size + 3) hsz)
  have LM := Lib.hid (show ∀ g, (Value.slice A1 Ms_.length c1).ownBlock = some g → g < v1.heap.size from fun g hg => (ho1.blk g hg).2)
  clear ho1
  clear hb1 BA BR BO
  have co2 : v1.cell? ⟨w.heap.size + 1 + 1, 2, none⟩ = some (.int .i64 0) := BO1.out.cell 2
  have fo2 : v1.frozen? ⟨w.heap.size + 1 + 1, 2, none⟩ = false := BO1.out.free 2
  have co3 : v1.cell? ⟨w.heap.size + 1 + 1, 3, none⟩ = some (.int .i64 0) := BO1.out.cell 3
  have fo3 : v1.frozen? ⟨w.heap.size + 1 + 1, 3, none⟩ = false := BO1.out.free 3
  have co4 : v1.cell? ⟨w.heap.size + 1 + 1, 4, none⟩ = some (.slice none 0 0) := BO1.out.cell 4
  have fo4 : v1.frozen? ⟨w.heap.size + 1 + 1, 4, none⟩ = false := BO1.out.free 4
  have ca5 : v1.cell? ⟨w.heap.size, 5, none⟩ = some (.int .i64 aw_) := BA1.out.cell 5
  have ca6 : v1.cell? ⟨w.heap.size, 6, none⟩ = some (.int .i64 ah_) := BA1.out.cell 6
  have ca7 : v1.cell? ⟨w.heap.size, 7, none⟩ = some (.slice AA_ As_.length Ac_) := BA1.out.cell 7
  have HBV := Lib.hid (((HB1.out.setCell (p := ⟨w.heap.size + 1 + 1, 2, none⟩) (show w.heap.size ≤ w.heap.size + 1 + 1 by omega) (.int .i64 mw_)).setCell (p := ⟨w.heap.size + 1 + 1, 3, none⟩) (show w.heap.size ≤ w.heap.size + 1 + 1 by omega) (.int .i64 mh_)).setCell (p := ⟨w.heap.size + 1 + 1, 4, none⟩) (show w.heap.size ≤ w.heap.size + 1 + 1 by omega) (.slice A1 Ms_.length c1))
  have BA := Lib.hid (((BA1.out.other (b' := w.heap.size + 1 + 1) (j := 2) (v := .int .i64 mw_) (by omega)).other (b' := w.heap.size + 1 + 1) (j := 3) (v := .int .i64 mh_) (by omega)).other (b' := w.heap.size + 1 + 1) (j := 4) (v := .slice A1 Ms_.length c1) (by omega))
  have BR := Lib.hid (((BR1.out.other (b' := w.heap.size + 1 + 1) (j := 2) (v := .int .i64 mw_) (by omega)).other (b' := w.heap.size + 1 + 1) (j := 3) (v := .int .i64 mh_) (by omega)).other (b' := w.heap.size + 1 + 1) (j := 4) (v := .slice A1 Ms_.length c1) (by omega))
  have bo := (((BO1.out.set (j := 2) (v := .int .i64 mw_)).set (j := 3) (v := .int .i64 mh_)).set (j := 4) (v := .slice A1 Ms_.length c1))
  simp only [List.setIfInBounds_toArray, List.set_cons_zero, List.set_cons_succ] at bo
  have BO := Lib.hid bo
  clear bo BA1 BR1 BO1 HB1
  have OMs := Lib.hid (show OwnC _ _ A1 Ms_.length c1 Ms_ from (own_setK (own_setK (own_setK OM.out (w.heap.size + 1 + 1) 2 (.int .i64 mw_) (by omega)) (w.heap.size + 1 + 1) 3 (.int .i64 mh_) (by omega)) (w.heap.size + 1 + 1) 4 (.slice A1 Ms_.length c1) (by omega)))
  clear OM
  go_wp2_with fail
  refine (toGrid_any aw_ ah_ AA_ As_.length Ac_ As_ _ ((HA.out.below (Nat.le_refl _) HBV.out).more HBV.out.size) rfl (by omega)).mono ?_
  rintro e v2 ⟨A2, c2, rfl, ho2, hb2⟩
  clear co2 fo2 co3 fo3 co4 fo4 ca5 ca6 ca7
  have HB2 := Lib.hid (HBV.out.trans (hb2.mono HBV.out.size))
  clear HBV
  have BA2 := Lib.hid (BA.out.below hb2 BA.out.lt)
  have BR2 := Lib.hid (BR.out.below hb2 BR.out.lt)
  have BO2 := Lib.hid (BO.out.below hb2 BO.out.lt)
  have zo2 : w.heap.size + 1 + 1 < v2.heap.size := BO2.out.lt
  have zr2 : w.heap.size + 1 < v2.heap.size := BR2.out.lt
  have za2 : w.heap.size < v2.heap.size := BA2.out.lt
  have OMs_2 := Lib.hid (OMs.out.below (Nat.le_refl _) hb2)
  clear OMs
  have OA := Lib.hid (ho2.more (base' := w.heap.size + 3) (by simp only [World.size_setCell]; omega))
  have LA := Lib.hid (show ∀ g, (Value.slice A2 As_.length c2).ownBlock = some g → g < v2.heap.size from fun g hg => (ho2.blk g hg).2)
  have LoA := Lib.hid (show ∀ g, (Value.slice A2 As_.length c2).ownBlock = some g → v1.heap.size ≤ g from fun g hg => by have := (ho2.blk g hg).1; simp only [World.size_setCell] at this; exact this)
  clear ho2
  have HS2 : v1.heap.size ≤ v2.heap.size := by have := hb2.size; simp only [World.size_setCell] at this; exact this
  clear hb2 BA BR BO
  have co5 : v2.cell? ⟨w.heap.size + 1 + 1, 5, none⟩ = some (.int .i64 0) := BO2.out.cell 5
  have fo5 : v2.frozen? ⟨w.heap.size + 1 + 1, 5, none⟩ = false := BO2.out.free 5
  have co6 : v2.cell? ⟨w.heap.size + 1 + 1, 6, none⟩ = some (.int .i64 0) := BO2.out.cell 6
  have fo6 : v2.frozen? ⟨w.heap.size + 1 + 1, 6, none⟩ = false := BO2.out.free 6
  have co7 : v2.cell? ⟨w.heap.size + 1 + 1, 7, none⟩ = some (.slice none 0 0) := BO2.out.cell 7
  have fo7 : v2.frozen? ⟨w.heap.size + 1 + 1, 7, none⟩ = false := BO2.out.free 7
  have co8 : v2.cell? ⟨w.heap.size + 1 + 1, 8, none⟩ = some (.bool false) := BO2.out.cell 8
  have fo8 : v2.frozen? ⟨w.heap.size + 1 + 1, 8, none⟩ = false := BO2.out.free 8
  have co9 : v2.cell? ⟨w.heap.size + 1 + 1, 9, none⟩ = some (.int .i64 0) := BO2.out.cell 9
  have fo9 : v2.frozen? ⟨w.heap.size + 1 + 1, 9, none⟩ = false := BO2.out.free 9
  have co10 : v2.cell? ⟨w.heap.size + 1 + 1, 10, none⟩ = some (.int .i64 0) := BO2.out.cell 10
  have fo10 : v2.frozen? ⟨w.heap.size + 1 + 1, 10, none⟩ = false := BO2.out.free 10
  have co11 : v2.cell? ⟨w.heap.size + 1 + 1, 11, none⟩ = some (.bool false) := BO2.out.cell 11
  have fo11 : v2.frozen? ⟨w.heap.size + 1 + 1, 11, none⟩ = false := BO2.out.free 11
  have ca8 : v2.cell? ⟨w.heap.size, 8, none⟩ = some (.bool onAlt_) := BA2.out.cell 8
  have ca9 : v2.cell? ⟨w.heap.size, 9, none⟩ = some (.int .i64 x_) := BA2.out.cell 9
  have ca10 : v2.cell? ⟨w.heap.size, 10, none⟩ = some (.int .i64 y_) := BA2.out.cell 10
  have ca11 : v2.cell? ⟨w.heap.size, 11, none⟩ = some (.bool wrap_) := BA2.out.cell 11
  have ca12 : v2.cell? ⟨w.heap.size, 12, none⟩ = some (.int .i64 fg_) := BA2.out.cell 12
  have ca13 : v2.cell? ⟨w.heap.size, 13, none⟩ = some (.int .i64 bg_) := BA2.out.cell 13
  have ca14 : v2.cell? ⟨w.heap.size, 14, none⟩ = some (.bool b_) := BA2.out.cell 14
  have ca15 : v2.cell? ⟨w.heap.size, 15, none⟩ = some (.bool u_) := BA2.out.cell 15
  have ca16 : v2.cell? ⟨w.heap.size, 16, none⟩ = some (.bool t_) := BA2.out.cell 16
  have HBV := Lib.hid (((((((HB2.out.setCell (p := ⟨w.heap.size + 1 + 1, 5, none⟩) (show w.heap.size ≤ w.heap.size + 1 + 1 by omega) (.int .i64 aw_)).setCell (p := ⟨w.heap.size + 1 + 1, 6, none⟩) (show w.heap.size ≤ w.heap.size + 1 + 1 by omega) (.int .i64 ah_)).setCell (p := ⟨w.heap.size + 1 + 1, 7, none⟩) (show w.heap.size ≤ w.heap.size + 1 + 1 by omega) (.slice A2 As_.length c2)).setCell (p := ⟨w.heap.size + 1 + 1, 8, none⟩) (show w.heap.size ≤ w.heap.size + 1 + 1 by omega) (.bool onAlt_)).setCell (p := ⟨w.heap.size + 1 + 1, 9, none⟩) (show w.heap.size ≤ w.heap.size + 1 + 1 by omega) (.int .i64 x_)).setCell (p := ⟨w.heap.size + 1 + 1, 10, none⟩) (show w.heap.size ≤ w.heap.size + 1 + 1 by omega) (.int .i64 y_)).setCell (p := ⟨w.heap.size + 1 + 1, 11, none⟩) (show w.heap.size ≤ w.heap.size + 1 + 1 by omega) (.bool wrap_))
  have BA := Lib.hid (((((((BA2.out.other (b' := w.heap.size + 1 + 1) (j := 5) (v := .int .i64 aw_) (by omega)).other (b' := w.heap.size + 1 + 1) (j := 6) (v := .int .i64 ah_) (by omega)).other (b' := w.heap.size + 1 + 1) (j := 7) (v := .slice A2 As_.length c2) (by omega)).other (b' := w.heap.size + 1 + 1) (j := 8) (v := .bool onAlt_) (by omega)).other (b' := w.heap.size + 1 + 1) (j := 9) (v := .int .i64 x_) (by omega)).other (b' := w.heap.size + 1 + 1) (j := 10) (v := .int .i64 y_) (by omega)).other (b' := w.heap.size + 1 + 1) (j := 11) (v := .bool wrap_) (by omega))
  have BR := Lib.hid (((((((BR2.out.other (b' := w.heap.size + 1 + 1) (j := 5) (v := .int .i64 aw_) (by omega)).other (b' := w.heap.size + 1 + 1) (j := 6) (v := .int .i64 ah_) (by omega)).other (b' := w.heap.size + 1 + 1) (j := 7) (v := .slice A2 As_.length c2) (by omega)).other (b' := w.heap.size + 1 + 1) (j := 8) (v := .bool onAlt_) (by omega)).other (b' := w.heap.size + 1 + 1) (j := 9) (v := .int .i64 x_) (by omega)).other (b' := w.heap.size + 1 + 1) (j := 10) (v := .int .i64 y_) (by omega)).other (b' := w.heap.size + 1 + 1) (j := 11) (v := .bool wrap_) (by omega))
  have bo := (((((((BO2.out.set (j := 5) (v := .int .i64 aw_)).set (j := 6) (v := .int .i64 ah_)).set (j := 7) (v := .slice A2 As_.length c2)).set (j := 8) (v := .bool onAlt_)).set (j := 9) (v := .int .i64 x_)).set (j := 10) (v := .int .i64 y_)).set (j := 11) (v := .bool wrap_))
  simp only [List.setIfInBounds_toArray, List.set_cons_zero, List.set_cons_succ] at bo
  have BO := Lib.hid bo
  clear bo BA2 BR2 BO2 HB2
  have OMs_2s := Lib.hid (show OwnC _ _ A1 Ms_.length c1 Ms_ from (own_setK (own_setK (own_setK (own_setK (own_setK (own_setK (own_setK OMs_2.out (w.heap.size + 1 + 1) 5 (.int .i64 aw_) (by omega)) (w.heap.size + 1 + 1) 6 (.int .i64 ah_) (by omega)) (w.heap.size + 1 + 1) 7 (.slice A2 As_.length c2) (by omega)) (w.heap.size + 1 + 1) 8 (.bool onAlt_) (by omega)) (w.heap.size + 1 + 1) 9 (.int .i64 x_) (by omega)) (w.heap.size + 1 + 1) 10 (.int .i64 y_) (by omega)) (w.heap.size + 1 + 1) 11 (.bool wrap_) (by omega)))
  clear OMs_2
  have OAs := Lib.hid (show OwnC _ _ A2 As_.length c2 As_ from (own_setK (own_setK (own_setK (own_setK (own_setK (own_setK (own_setK OA.out (w.heap.size + 1 + 1) 5 (.int .i64 aw_) (by omega)) (w.heap.size + 1 + 1) 6 (.int .i64 ah_) (by omega)) (w.heap.size + 1 + 1) 7 (.slice A2 As_.length c2) (by omega)) (w.heap.size + 1 + 1) 8 (.bool onAlt_) (by omega)) (w.heap.size + 1 + 1) 9 (.int .i64 x_) (by omega)) (w.heap.size + 1 + 1) 10 (.int .i64 y_) (by omega)) (w.heap.size + 1 + 1) 11 (.bool wrap_) (by omega)))
  clear OA
  go_wp2_with fail
  refine (toAttr_any fg_ bg_ b_ u_ t_ _).mono ?_
  rintro e v3 ⟨rfl, hb3⟩
  clear co5 fo5 co6 fo6 co7 fo7 co8 fo8 co9 fo9 co10 fo10 co11 fo11 ca8 ca9 ca10 ca11 ca12 ca13 ca14 ca15 ca16
  have HB3 := Lib.hid (HBV.out.trans (hb3.mono HBV.out.size))
  clear HBV
  have BA3 := Lib.hid (BA.out.below hb3 BA.out.lt)
  have BR3 := Lib.hid (BR.out.below hb3 BR.out.lt)
  have BO3 := Lib.hid (BO.out.below hb3 BO.out.lt)
  have zo3 : w.heap.size + 1 + 1 < v3.heap.size := BO3.out.lt
  have zr3 : w.heap.size + 1 < v3.heap.size := BR3.out.lt
  have za3 : w.heap.size < v3.heap.size := BA3.out.lt
  have OMs_2s_3 := Lib.hid (OMs_2s.out.below (Nat.le_refl _) hb3)
  clear OMs_2s
  have OAs_3 := Lib.hid (OAs.out.below (Nat.le_refl _) hb3)
  clear OAs
  have HS3 : v2.heap.size ≤ v3.heap.size := by have := hb3.size; simp only [World.size_setCell] at this; exact this
  clear hb3 BA BR BO
  have co12 : v3.cell? ⟨w.heap.size + 1 + 1, 12, none⟩ = some (.int .i64 0) := BO3.out.cell 12
  have fo12 : v3.frozen? ⟨w.heap.size + 1 + 1, 12, none⟩ = false := BO3.out.free 12
  have co13 : v3.cell? ⟨w.heap.size + 1 + 1, 13, none⟩ = some (.int .i64 0) := BO3.out.cell 13
  have fo13 : v3.frozen? ⟨w.heap.size + 1 + 1, 13, none⟩ = false := BO3.out.free 13
  have co14 : v3.cell? ⟨w.heap.size + 1 + 1, 14, none⟩ = some (.bool false) := BO3.out.cell 14
  have fo14 : v3.frozen? ⟨w.heap.size + 1 + 1, 14, none⟩ = false := BO3.out.free 14
  have co15 : v3.cell? ⟨w.heap.size + 1 + 1, 15, none⟩ = some (.bool false) := BO3.out.cell 15
  have fo15 : v3.frozen? ⟨w.heap.size + 1 + 1, 15, none⟩ = false := BO3.out.free 15
  have co16 : v3.cell? ⟨w.heap.size + 1 + 1, 16, none⟩ = some (.bool false) := BO3.out.cell 16
  have fo16 : v3.frozen? ⟨w.heap.size + 1 + 1, 16, none⟩ = false := BO3.out.free 16
  have co17 : v3.cell? ⟨w.heap.size + 1 + 1, 17, none⟩ = some (.int .i64 0) := BO3.out.cell 17
  have fo17 : v3.frozen? ⟨w.heap.size + 1 + 1, 17, none⟩ = false := BO3.out.free 17
  have co18 : v3.cell? ⟨w.heap.size + 1 + 1, 18, none⟩ = some (.int .i64 0) := BO3.out.cell 18
  have fo18 : v3.frozen? ⟨w.heap.size + 1 + 1, 18, none⟩ = false := BO3.out.free 18
  have co19 : v3.cell? ⟨w.heap.size + 1 + 1, 19, none⟩ = some (.bool false) := BO3.out.cell 19
  have fo19 : v3.frozen? ⟨w.heap.size + 1 + 1, 19, none⟩ = false := BO3.out.free 19
  have co20 : v3.cell? ⟨w.heap.size + 1 + 1, 20, none⟩ = some (.bool false) := BO3.out.cell 20
  have fo20 : v3.frozen? ⟨w.heap.size + 1 + 1, 20, none⟩ = false := BO3.out.free 20
  have co21 : v3.cell? ⟨w.heap.size + 1 + 1, 21, none⟩ = some (.int .i64 0) := BO3.out.cell 21
  have fo21 : v3.frozen? ⟨w.heap.size + 1 + 1, 21, none⟩ = false := BO3.out.free 21
  have co22 : v3.cell? ⟨w.heap.size + 1 + 1, 22, none⟩ = some (.int .i64 0) := BO3.out.cell 22
  have fo22 : v3.frozen? ⟨w.heap.size + 1 + 1, 22, none⟩ = false := BO3.out.free 22
  have ca17 : v3.cell? ⟨w.heap.size, 17, none⟩ = some (.int .i64 top_) := BA3.out.cell 17
  have ca18 : v3.cell? ⟨w.heap.size, 18, none⟩ = some (.int .i64 bot_) := BA3.out.cell 18
  have ca19 : v3.cell? ⟨w.heap.size, 19, none⟩ = some (.bool noWrap_) := BA3.out.cell 19
  have ca20 : v3.cell? ⟨w.heap.size, 20, none⟩ = some (.bool hide_) := BA3.out.cell 20
  have ca21 : v3.cell? ⟨w.heap.size, 21, none⟩ = some (.int .i64 sx_) := BA3.out.cell 21
  have ca22 : v3.cell? ⟨w.heap.size, 22, none⟩ = some (.int .i64 sy_) := BA3.out.cell 22
  have ca23 : v3.cell? ⟨w.heap.size, 23, none⟩ = some (.int .i64 sfg_) := BA3.out.cell 23
  have ca24 : v3.cell? ⟨w.heap.size, 24, none⟩ = some (.int .i64 sbg_) := BA3.out.cell 24
  have ca25 : v3.cell? ⟨w.heap.size, 25, none⟩ = some (.bool sb_) := BA3.out.cell 25
  have ca26 : v3.cell? ⟨w.heap.size, 26, none⟩ = some (.bool su_) := BA3.out.cell 26
  have ca27 : v3.cell? ⟨w.heap.size, 27, none⟩ = some (.bool st_) := BA3.out.cell 27
  have HBV := Lib.hid (((((((((((HB3.out.setCell (p := ⟨w.heap.size + 1 + 1, 12, none⟩) (show w.heap.size ≤ w.heap.size + 1 + 1 by omega) (.int .i64 fg_)).setCell (p := ⟨w.heap.size + 1 + 1, 13, none⟩) (show w.heap.size ≤ w.heap.size + 1 + 1 by omega) (.int .i64 bg_)).setCell (p := ⟨w.heap.size + 1 + 1, 14, none⟩) (show w.heap.size ≤ w.heap.size + 1 + 1 by omega) (.bool b_)).setCell (p := ⟨w.heap.size + 1 + 1, 15, none⟩) (show w.heap.size ≤ w.heap.size + 1 + 1 by omega) (.bool u_)).setCell (p := ⟨w.heap.size + 1 + 1, 16, none⟩) (show w.heap.size ≤ w.heap.size + 1 + 1 by omega) (.bool t_)).setCell (p := ⟨w.heap.size + 1 + 1, 17, none⟩) (show w.heap.size ≤ w.heap.size + 1 + 1 by omega) (.int .i64 top_)).setCell (p := ⟨w.heap.size + 1 + 1, 18, none⟩) (show w.heap.size ≤ w.heap.size + 1 + 1 by omega) (.int .i64 bot_)).setCell (p := ⟨w.heap.size + 1 + 1, 19, none⟩) (show w.heap.size ≤ w.heap.size + 1 + 1 by omega) (.bool noWrap_)).setCell (p := ⟨w.heap.size + 1 + 1, 20, none⟩) (show w.heap.size ≤ w.heap.size + 1 + 1 by omega) (.bool hide_)).setCell (p := ⟨w.heap.size + 1 + 1, 21, none⟩) (show w.heap.size ≤ w.heap.size + 1 + 1 by omega) (.int .i64 sx_)).setCell (p := ⟨w.heap.size + 1 + 1, 22, none⟩) (show w.heap.size ≤ w.heap.size + 1 + 1 by omega) (.int .i64 sy_))
  have BA := Lib.hid (((((((((((BA3.out.other (b' := w.heap.size + 1 + 1) (j := 12) (v := .int .i64 fg_) (by omega)).other (b' := w.heap.size + 1 + 1) (j := 13) (v := .int .i64 bg_) (by omega)).other (b' := w.heap.size + 1 + 1) (j := 14) (v := .bool b_) (by omega)).other (b' := w.heap.size + 1 + 1) (j := 15) (v := .bool u_) (by omega)).other (b' := w.heap.size + 1 + 1) (j := 16) (v := .bool t_) (by omega)).other (b' := w.heap.size + 1 + 1) (j := 17) (v := .int .i64 top_) (by omega)).other (b' := w.heap.size + 1 + 1) (j := 18) (v := .int .i64 bot_) (by omega)).other (b' := w.heap.size + 1 + 1) (j := 19) (v := .bool noWrap_) (by omega)).other (b' := w.heap.size + 1 + 1) (j := 20) (v := .bool hide_) (by omega)).other (b' := w.heap.size + 1 + 1) (j := 21) (v := .int .i64 sx_) (by omega)).other (b' := w.heap.size + 1 + 1) (j := 22) (v := .int .i64 sy_) (by omega))
  have BR := Lib.hid (((((((((((BR3.out.other (b' := w.heap.size + 1 + 1) (j := 12) (v := .int .i64 fg_) (by omega)).other (b' := w.heap.size + 1 + 1) (j := 13) (v := .int .i64 bg_) (by omega)).other (b' := w.heap.size + 1 + 1) (j := 14) (v := .bool b_) (by omega)).other (b' := w.heap.size + 1 + 1) (j := 15) (v := .bool u_) (by omega)).other (b' := w.heap.size + 1 + 1) (j := 16) (v := .bool t_) (by omega)).other (b' := w.heap.size + 1 + 1) (j := 17) (v := .int .i64 top_) (by omega)).other (b' := w.heap.size + 1 + 1) (j := 18) (v := .int .i64 bot_) (by omega)).other (b' := w.heap.size + 1 + 1) (j := 19) (v := .bool noWrap_) (by omega)).other (b' := w.heap.size + 1 + 1) (j := 20) (v := .bool hide_) (by omega)).other (b' := w.heap.size + 1 + 1) (j := 21) (v := .int .i64 sx_) (by omega)).other (b' := w.heap.size + 1 + 1) (j := 22) (v := .int .i64 sy_) (by omega))
  have bo := (((((((((((BO3.out.set (j := 12) (v := .int .i64 fg_)).set (j := 13) (v := .int .i64 bg_)).set (j := 14) (v := .bool b_)).set (j := 15) (v := .bool u_)).set (j := 16) (v := .bool t_)).set (j := 17) (v := .int .i64 top_)).set (j := 18) (v := .int .i64 bot_)).set (j := 19) (v := .bool noWrap_)).set (j := 20) (v := .bool hide_)).set (j := 21) (v := .int .i64 sx_)).set (j := 22) (v := .int .i64 sy_))
  simp only [List.setIfInBounds_toArray, List.set_cons_zero, List.set_cons_succ] at bo
  have BO := Lib.hid bo
  clear bo BA3 BR3 BO3 HB3
  have OMs_2s_3s := Lib.hid (show OwnC _ _ A1 Ms_.length c1 Ms_ from (own_setK (own_setK (own_setK (own_setK (own_setK (own_setK (own_setK (own_setK (own_setK (own_setK (own_setK OMs_2s_3.out (w.heap.size + 1 + 1) 12 (.int .i64 fg_) (by omega)) (w.heap.size + 1 + 1) 13 (.int .i64 bg_) (by omega)) (w.heap.size + 1 + 1) 14 (.bool b_) (by omega)) (w.heap.size + 1 + 1) 15 (.bool u_) (by omega)) (w.heap.size + 1 + 1) 16 (.bool t_) (by omega)) (w.heap.size + 1 + 1) 17 (.int .i64 top_) (by omega)) (w.heap.size + 1 + 1) 18 (.int .i64 bot_) (by omega)) (w.heap.size + 1 + 1) 19 (.bool noWrap_) (by omega)) (w.heap.size + 1 + 1) 20 (.bool hide_) (by omega)) (w.heap.size + 1 + 1) 21 (.int .i64 sx_) (by omega)) (w.heap.size + 1 + 1) 22 (.int .i64 sy_) (by omega)))
  clear OMs_2s_3
  have OAs_3s := Lib.hid (show OwnC _ _ A2 As_.length c2 As_ from (own_setK (own_setK (own_setK (own_setK (own_setK (own_setK (own_setK (own_setK (own_setK (own_setK (own_setK OAs_3.out (w.heap.size + 1 + 1) 12 (.int .i64 fg_) (by omega)) (w.heap.size + 1 + 1) 13 (.int .i64 bg_) (by omega)) (w.heap.size + 1 + 1) 14 (.bool b_) (by omega)) (w.heap.size + 1 + 1) 15 (.bool u_) (by omega)) (w.heap.size + 1 + 1) 16 (.bool t_) (by omega)) (w.heap.size + 1 + 1) 17 (.int .i64 top_) (by omega)) (w.heap.size + 1 + 1) 18 (.int .i64 bot_) (by omega)) (w.heap.size + 1 + 1) 19 (.bool noWrap_) (by omega)) (w.heap.size + 1 + 1) 20 (.bool hide_) (by omega)) (w.heap.size + 1 + 1) 21 (.int .i64 sx_) (by omega)) (w.heap.size + 1 + 1) 22 (.int .i64 sy_) (by omega)))
  clear OAs_3
  go_wp2_with fail
  refine (toAttr_any sfg_ sbg_ sb_ su_ st_ _).mono ?_
  rintro e v4 ⟨rfl, hb4⟩
  clear co12 fo12 co13 fo13 co14 fo14 co15 fo15 co16 fo16 co17 fo17 co18 fo18 co19 fo19 co20 fo20 co21 fo21 co22 fo22 ca17 ca18 ca19 ca20 ca21 ca22 ca23 ca24 ca25 ca26 ca27
  have HB4 := Lib.hid (HBV.out.trans (hb4.mono HBV.out.size))
  clear HBV
  have BA4 := Lib.hid (BA.out.below hb4 BA.out.lt)
  have BR4 := Lib.hid (BR.out.below hb4 BR.out.lt)
  have BO4 := Lib.hid (BO.out.below hb4 BO.out.lt)
  have zo4 : w.heap.size + 1 + 1 < v4.heap.size := BO4.out.lt
  have zr4 : w.heap.size + 1 < v4.heap.size := BR4.out.lt
  have za4 : w.heap.size < v4.heap.size := BA4.out.lt
  have OMs_2s_3s_4 := Lib.hid (OMs_2s_3s.out.below (Nat.le_refl _) hb4)
  clear OMs_2s_3s
  have OAs_3s_4 := Lib.hid (OAs_3s.out.below (Nat.le_refl _) hb4)
  clear OAs_3s
  have HS4 : v3.heap.size ≤ v4.heap.size := by have := hb4.size; simp only [World.size_setCell] at this; exact this
  clear hb4 BA BR BO
  have co23 : v4.cell? ⟨w.heap.size + 1 + 1, 23, none⟩ = some (.int .i64 0) := BO4.out.cell 23
  have fo23 : v4.frozen? ⟨w.heap.size + 1 + 1, 23, none⟩ = false := BO4.out.free 23
  have co24 : v4.cell? ⟨w.heap.size + 1 + 1, 24, none⟩ = some (.int .i64 0) := BO4.out.cell 24
  have fo24 : v4.frozen? ⟨w.heap.size + 1 + 1, 24, none⟩ = false := BO4.out.free 24
  have co25 : v4.cell? ⟨w.heap.size + 1 + 1, 25, none⟩ = some (.bool false) := BO4.out.cell 25
  have fo25 : v4.frozen? ⟨w.heap.size + 1 + 1, 25, none⟩ = false := BO4.out.free 25
  have co26 : v4.cell? ⟨w.heap.size + 1 + 1, 26, none⟩ = some (.bool false) := BO4.out.cell 26
  have fo26 : v4.frozen? ⟨w.heap.size + 1 + 1, 26, none⟩ = false := BO4.out.free 26
  have co27 : v4.cell? ⟨w.heap.size + 1 + 1, 27, none⟩ = some (.bool false) := BO4.out.cell 27
  have fo27 : v4.frozen? ⟨w.heap.size + 1 + 1, 27, none⟩ = false := BO4.out.free 27
  have ca28 : v4.cell? ⟨w.heap.size, 28, none⟩ = some (.slice tabsA_ tabs_.length tabsc_) := BA4.out.cell 28
  have HBV := Lib.hid (((((HB4.out.setCell (p := ⟨w.heap.size + 1 + 1, 23, none⟩) (show w.heap.size ≤ w.heap.size + 1 + 1 by omega) (.int .i64 sfg_)).setCell (p := ⟨w.heap.size + 1 + 1, 24, none⟩) (show w.heap.size ≤ w.heap.size + 1 + 1 by omega) (.int .i64 sbg_)).setCell (p := ⟨w.heap.size + 1 + 1, 25, none⟩) (show w.heap.size ≤ w.heap.size + 1 + 1 by omega) (.bool sb_)).setCell (p := ⟨w.heap.size + 1 + 1, 26, none⟩) (show w.heap.size ≤ w.heap.size + 1 + 1 by omega) (.bool su_)).setCell (p := ⟨w.heap.size + 1 + 1, 27, none⟩) (show w.heap.size ≤ w.heap.size + 1 + 1 by omega) (.bool st_))
  have BA := Lib.hid (((((BA4.out.other (b' := w.heap.size + 1 + 1) (j := 23) (v := .int .i64 sfg_) (by omega)).other (b' := w.heap.size + 1 + 1) (j := 24) (v := .int .i64 sbg_) (by omega)).other (b' := w.heap.size + 1 + 1) (j := 25) (v := .bool sb_) (by omega)).other (b' := w.heap.size + 1 + 1) (j := 26) (v := .bool su_) (by omega)).other (b' := w.heap.size + 1 + 1) (j := 27) (v := .bool st_) (by omega))
  have BR := Lib.hid (((((BR4.out.other (b' := w.heap.size + 1 + 1) (j := 23) (v := .int .i64 sfg_) (by omega)).other (b' := w.heap.size + 1 + 1) (j := 24) (v := .int .i64 sbg_) (by omega)).other (b' := w.heap.size + 1 + 1) (j := 25) (v := .bool sb_) (by omega)).other (b' := w.heap.size + 1 + 1) (j := 26) (v := .bool su_) (by omega)).other (b' := w.heap.size + 1 + 1) (j := 27) (v := .bool st_) (by omega))
  have bo := (((((BO4.out.set (j := 23) (v := .int .i64 sfg_)).set (j := 24) (v := .int .i64 sbg_)).set (j := 25) (v := .bool sb_)).set (j := 26) (v := .bool su_)).set (j := 27) (v := .bool st_))
  simp only [List.setIfInBounds_toArray, List.set_cons_zero, List.set_cons_succ] at bo
  have BO := Lib.hid bo
  clear bo BA4 BR4 BO4 HB4
  have OMs_2s_3s_4s := Lib.hid (show OwnC _ _ A1 Ms_.length c1 Ms_ from (own_setK (own_setK (own_setK (own_setK (own_setK OMs_2s_3s_4.out (w.heap.size + 1 + 1) 23 (.int .i64 sfg_) (by omega)) (w.heap.size + 1 + 1) 24 (.int .i64 sbg_) (by omega)) (w.heap.size + 1 + 1) 25 (.bool sb_) (by omega)) (w.heap.size + 1 + 1) 26 (.bool su_) (by omega)) (w.heap.size + 1 + 1) 27 (.bool st_) (by omega)))
  clear OMs_2s_3s_4
  have OAs_3s_4s := Lib.hid (show OwnC _ _ A2 As_.length c2 As_ from (own_setK (own_setK (own_setK (own_setK (own_setK OAs_3s_4.out (w.heap.size + 1 + 1) 23 (.int .i64 sfg_) (by omega)) (w.heap.size + 1 + 1) 24 (.int .i64 sbg_) (by omega)) (w.heap.size + 1 + 1) 25 (.bool sb_) (by omega)) (w.heap.size + 1 + 1) 26 (.bool su_) (by omega)) (w.heap.size + 1 + 1) 27 (.bool st_) (by omega)))
  clear OAs_3s_4
  go_wp2_with fail
  refine (toIntS_any tabsA_ tabs_.length tabsc_ tabs_ _ ((HT.out.below (Nat.le_refl _) HBV.out).more HBV.out.size) rfl (by omega)).mono ?_
  rintro e v5 ⟨A5, c5, rfl, ho5, hb5⟩
  clear co23 fo23 co24 fo24 co25 fo25 co26 fo26 co27 fo27 ca28
  have HB5 := Lib.hid (HBV.out.trans (hb5.mono HBV.out.size))
  clear HBV
  have BA5 := Lib.hid (BA.out.below hb5 BA.out.lt)
  have BR5 := Lib.hid (BR.out.below hb5 BR.out.lt)
  have BO5 := Lib.hid (BO.out.below hb5 BO.out.lt)
  have zo5 : w.heap.size + 1 + 1 < v5.heap.size := BO5.out.lt
  have zr5 : w.heap.size + 1 < v5.heap.size := BR5.out.lt
  have za5 : w.heap.size < v5.heap.size := BA5.out.lt
  have OMs_2s_3s_4s_5 := Lib.hid (OMs_2s_3s_4s.out.below (Nat.le_refl _) hb5)
  clear OMs_2s_3s_4s
  have OAs_3s_4s_5 := Lib.hid (OAs_3s_4s.out.below (Nat.le_refl _) hb5)
  clear OAs_3s_4s
  have OT := Lib.hid (ho5.more (base' := w.heap.size + 3) (by simp only [World.size_setCell]; omega))
  clear ho5
  have HS5 : v4.heap.size ≤ v5.heap.size := by have := hb5.size; simp only [World.size_setCell] at this; exact this
  clear hb5 BA BR BO
  have co28 : v5.cell? ⟨w.heap.size + 1 + 1, 28, none⟩ = some (.slice none 0 0) := BO5.out.cell 28
  have fo28 : v5.frozen? ⟨w.heap.size + 1 + 1, 28, none⟩ = false := BO5.out.free 28
  have co29 : v5.cell? ⟨w.heap.size + 1 + 1, 29, none⟩ = some (.int .i64 0) := BO5.out.cell 29
  have fo29 : v5.frozen? ⟨w.heap.size + 1 + 1, 29, none⟩ = false := BO5.out.free 29
  have ca29 : v5.cell? ⟨w.heap.size, 29, none⟩ = some (.int .i64 lim_) := BA5.out.cell 29
  have ca30 : v5.cell? ⟨w.heap.size, 30, none⟩ = some (.slice rowsA_ rows_.length rowsc_) := BA5.out.cell 30
  have HBV := Lib.hid ((HB5.out.setCell (p := ⟨w.heap.size + 1 + 1, 28, none⟩) (show w.heap.size ≤ w.heap.size + 1 + 1 by omega) (.slice A5 tabs_.length c5)).setCell (p := ⟨w.heap.size + 1 + 1, 29, none⟩) (show w.heap.size ≤ w.heap.size + 1 + 1 by omega) (.int .i64 lim_))
  have BA := Lib.hid ((BA5.out.other (b' := w.heap.size + 1 + 1) (j := 28) (v := .slice A5 tabs_.length c5) (by omega)).other (b' := w.heap.size + 1 + 1) (j := 29) (v := .int .i64 lim_) (by omega))
  have BR := Lib.hid ((BR5.out.other (b' := w.heap.size + 1 + 1) (j := 28) (v := .slice A5 tabs_.length c5) (by omega)).other (b' := w.heap.size + 1 + 1) (j := 29) (v := .int .i64 lim_) (by omega))
  have bo := ((BO5.out.set (j := 28) (v := .slice A5 tabs_.length c5)).set (j := 29) (v := .int .i64 lim_))
  simp only [List.setIfInBounds_toArray, List.set_cons_zero, List.set_cons_succ] at bo
  have BO := Lib.hid bo
  clear bo BA5 BR5 BO5 HB5
  have OMs_2s_3s_4s_5s := Lib.hid (show OwnC _ _ A1 Ms_.length c1 Ms_ from (own_setK (own_setK OMs_2s_3s_4s_5.out (w.heap.size + 1 + 1) 28 (.slice A5 tabs_.length c5) (by omega)) (w.heap.size + 1 + 1) 29 (.int .i64 lim_) (by omega)))
  clear OMs_2s_3s_4s_5
  have OAs_3s_4s_5s := Lib.hid (show OwnC _ _ A2 As_.length c2 As_ from (own_setK (own_setK OAs_3s_4s_5.out (w.heap.size + 1 + 1) 28 (.slice A5 tabs_.length c5) (by omega)) (w.heap.size + 1 + 1) 29 (.int .i64 lim_) (by omega)))
  clear OAs_3s_4s_5
  have OTs := Lib.hid (show OwnI _ _ A5 tabs_.length c5 tabs_ from (own_setK (own_setK OT.out (w.heap.size + 1 + 1) 28 (.slice A5 tabs_.length c5) (by omega)) (w.heap.size + 1 + 1) 29 (.int .i64 lim_) (by omega)))
  clear OT
  go_wp2_with fail
  refine (toRowS_any rowsA_ rows_.length rowsc_ rows_ _ ((HR.out.below (Nat.le_refl _) HBV.out).more HBV.out.size) rfl (by omega) ((HC.out.below (Nat.le_refl _) HBV.out).more HBV.out.size) HCN.out).mono ?_
  rintro e v6 ⟨A6, c6, gs, rfl, ho6, hk6, hg6, hb6⟩
  clear co28 fo28 co29 fo29 ca29 ca30
  have HB6 := Lib.hid (HBV.out.trans (hb6.mono HBV.out.size))
  clear HBV
  have BA6 := Lib.hid (BA.out.below hb6 BA.out.lt)
  have BR6 := Lib.hid (BR.out.below hb6 BR.out.lt)
  have BO6 := Lib.hid (BO.out.below hb6 BO.out.lt)
  have zo6 : w.heap.size + 1 + 1 < v6.heap.size := BO6.out.lt
  have zr6 : w.heap.size + 1 < v6.heap.size := BR6.out.lt
  have za6 : w.heap.size < v6.heap.size := BA6.out.lt
  have OMs_2s_3s_4s_5s_6 := Lib.hid (OMs_2s_3s_4s_5s.out.below (Nat.le_refl _) hb6)
  clear OMs_2s_3s_4s_5s
  have OAs_3s_4s_5s_6 := Lib.hid (OAs_3s_4s_5s.out.below (Nat.le_refl _) hb6)
  clear OAs_3s_4s_5s
  have OTs_6 := Lib.hid (OTs.out.below (Nat.le_refl _) hb6)
  clear OTs
  have OR := Lib.hid (ho6.more (base' := w.heap.size + 3) (by simp only [World.size_setCell]; omega))
  have LoR := Lib.hid (show ∀ r ∈ gs, ∀ g, blkS r = some g → v5.heap.size ≤ g from fun r hr g hg => by have := ((hg6.1 r hr).blk g hg).1; simp only [World.size_setCell] at this; exact this)
  have OG := Lib.hid (show OwnCs v6 _ gs from hg6)
  have OK := Lib.hid hk6
  clear ho6 hg6 hk6
  have HS6 : v5.heap.size ≤ v6.heap.size := by have := hb6.size; simp only [World.size_setCell] at this; exact this
  clear hb6 BA BR BO
  have co30 : v6.cell? ⟨w.heap.size + 1 + 1, 30, none⟩ = some (.slice none 0 0) := BO6.out.cell 30
  have fo30 : v6.frozen? ⟨w.heap.size + 1 + 1, 30, none⟩ = false := BO6.out.free 30
  have HBV := Lib.hid (HB6.out.setCell (p := ⟨w.heap.size + 1 + 1, 30, none⟩) (show w.heap.size ≤ w.heap.size + 1 + 1 by omega) (.slice A6 rows_.length c6))
  have BA := Lib.hid (BA6.out.other (b' := w.heap.size + 1 + 1) (j := 30) (v := .slice A6 rows_.length c6) (by omega))
  have BR := Lib.hid (BR6.out.other (b' := w.heap.size + 1 + 1) (j := 30) (v := .slice A6 rows_.length c6) (by omega))
  have bo := (BO6.out.set (j := 30) (v := .slice A6 rows_.length c6))
  simp only [List.setIfInBounds_toArray, List.set_cons_zero, List.set_cons_succ] at bo
  have BO := Lib.hid bo
  have BO6x := BO6
  have BR6x := Lib.hid (RowZ.of BR6.out 31 rfl)
  clear bo BA6 BR6 BO6 HB6
  have OMs_2s_3s_4s_5s_6s := Lib.hid (show OwnC _ _ A1 Ms_.length c1 Ms_ from (own_setK OMs_2s_3s_4s_5s_6.out (w.heap.size + 1 + 1) 30 (.slice A6 rows_.length c6) (by omega)))
  clear OMs_2s_3s_4s_5s_6
  have OAs_3s_4s_5s_6s := Lib.hid (show OwnC _ _ A2 As_.length c2 As_ from (own_setK OAs_3s_4s_5s_6.out (w.heap.size + 1 + 1) 30 (.slice A6 rows_.length c6) (by omega)))
  clear OAs_3s_4s_5s_6
  have OTs_6s := Lib.hid (show OwnI _ _ A5 tabs_.length c5 tabs_ from (own_setK OTs_6.out (w.heap.size + 1 + 1) 30 (.slice A6 rows_.length c6) (by omega)))
  clear OTs_6
  have ORs := Lib.hid (show OwnR _ _ A6 rows_.length c6 gs from (OwnR.set_ OR.out (w.heap.size + 1 + 1) 30 (.slice A6 rows_.length c6) (by omega)))
  clear OR
  have hg6 := OG.out.more (base' := w.heap.size + 3) (by simp only [World.size_setCell]; omega)
  have OGs := Lib.hid (OwnCs.set_ OG.out (w.heap.size + 1 + 1) 30 (.slice A6 rows_.length c6) (by simp only [World.size_setCell]; omega))
  clear hg6
  have hrow : rowOf v6 (w.heap.size + 1 + 1) = #[.int .i64 w_, .int .i64 h_, .int .i64 mw_, .int .i64 mh_, .slice A1 Ms_.length c1, .int .i64 aw_, .int .i64 ah_, .slice A2 As_.length c2, .bool onAlt_, .int .i64 x_, .int .i64 y_, .bool wrap_, .int .i64 fg_, .int .i64 bg_, .bool b_, .bool u_, .bool t_, .int .i64 top_, .int .i64 bot_, .bool noWrap_, .bool hide_, .int .i64 sx_, .int .i64 sy_, .int .i64 sfg_, .int .i64 sbg_, .bool sb_, .bool su_, .bool st_, .slice A5 tabs_.length c5, .int .i64 lim_, .slice none 0 0] := by
    have h := BO6x.out.row; exact h
  have hz6 : RowZ v6 (w.heap.size + 1) 31 := BR6x.out
  have hone : One #[.int .i64 w_, .int .i64 h_, .int .i64 mw_, .int .i64 mh_, .slice A1 Ms_.length c1, .int .i64 aw_, .int .i64 ah_, .slice A2 As_.length c2, .bool onAlt_, .int .i64 x_, .int .i64 y_, .bool wrap_, .int .i64 fg_, .int .i64 bg_, .bool b_, .bool u_, .bool t_, .int .i64 top_, .int .i64 bot_, .bool noWrap_, .bool hide_, .int .i64 sx_, .int .i64 sy_, .int .i64 sfg_, .int .i64 sbg_, .bool sb_, .bool su_, .bool st_, .slice A5 tabs_.length c5, .int .i64 lim_, .slice A6 rows_.length c6] := one_scr ⟨w_, h_, mw_, mh_, ⟨A1, c1, Ms_⟩, aw_, ah_, ⟨A2, c2, As_⟩, onAlt_, x_, y_, wrap_, fg_, bg_, b_, u_, t_, top_, bot_, noWrap_, hide_, sx_, sy_, sfg_, sbg_, sb_, su_, st_, A5, c5, tabs_, lim_, A6, c6, rows_⟩
  go_wp2_with fail
  have HGL := Lib.hid (show rows_.length = gs.length by have := congrArg List.length OK.out; rw [List.length_map, List.length_map] at this; omega)
  have hsz := HS3
  rw [HGL.out]
  refine bodyPost_ret (v := .agg (scrA ⟨w_, h_, mw_, mh_, ⟨A1, c1, Ms_⟩, aw_, ah_, ⟨A2, c2, As_⟩, onAlt_, x_, y_, wrap_, fg_, bg_, b_, u_, t_, top_, bot_, noWrap_, hide_, sx_, sy_, sfg_, sbg_, sb_, su_, st_, A5, c5, tabs_, lim_, A6, c6, gs⟩)) (res55 rfl _ _ (w.heap.size + 1) _ rfl (RowB.setRow (HGL.out ▸ BR.out)) rfl) rfl ⟨⟨w_, h_, mw_, mh_, ⟨A1, c1, Ms_⟩, aw_, ah_, ⟨A2, c2, As_⟩, onAlt_, x_, y_, wrap_, fg_, bg_, b_, u_, t_, top_, bot_, noWrap_, hide_, sx_, sy_, sfg_, sbg_, sb_, su_, st_, A5, c5, tabs_, lim_, A6, c6, gs⟩, rfl, ⟨⟨?_, ?_⟩, ?_, ?_⟩, ?_, ?_⟩
  · intro r hr
    rcases List.mem_cons.1 hr with rfl | hr
    · exact own_moreK (own_setRow (HGL.out ▸ OMs_2s_3s_4s_5s_6s.out) _ _ (by omega)) (by omega)
    · rcases List.mem_cons.1 hr with rfl | hr
      · exact own_moreK (own_setRow (HGL.out ▸ OAs_3s_4s_5s_6s.out) _ _ (by omega)) (by omega)
      · exact own_moreK (own_setRow (HGL.out ▸ OGs.out.1 r hr) _ _ (by simp only [World.size_setCell]; omega)) (by simp only [World.size_setCell]; omega)
  · refine List.pairwise_cons.2 ⟨fun y hy g hg hg' => ?_, List.pairwise_cons.2 ⟨fun y hy g hg hg' => ?_, OGs.out.2⟩⟩
    · have h1 := LM.out g hg
      rcases List.mem_cons.1 hy with rfl | hy
      · have h2 := LoA.out g hg'; omega
      · have h2 := LoR.out y hy g hg'; have h3 := HS2; have h4 := HS3; have h5 := HS4; have h6 := HS5; omega
    · have h1 := LA.out g hg
      have h2 := LoR.out y hy g hg'; have h4 := HS3; have h5 := HS4; have h6 := HS5; omega
  · exact own_moreK (own_setRow (HGL.out ▸ OTs_6s.out) _ _ (by omega)) (by omega)
  · exact OwnR.more (OwnR.row_ (show OwnR _ _ A6 gs.length c6 gs from HGL.out ▸ ORs.out) _ _ (by omega)) (by omega)
  · rw [HD.out]; unfold ScrS.data; simp only [OK.out]
  · exact below_setRow (HGL.out ▸ HBV.out) (by omega) _
end Go.Proofs.Ythlpchojlddnbaa.Sc

