/- The laws' helpers that bound a screen and compare two that hold the same. -/
import Derived.Test.YthlpchojlddnbaaScTo
import Derived.Test.YthlpchojlddnbaaScO
import Derived.Test.YthlpchojlddnbaaScToS
import Derived.Test.YthlpchojlddnbaaIntSz
import Derived.Test.YthlpchojlddnbaaAttr
namespace Go.Proofs.Ythlpchojlddnbaa.Sc
open Go.RowKit Go.Proofs.Ythlpchojlddnbaa.Bytes Go.Proofs.Ythlpchojlddnbaa.Rows_ Go.Proofs.Ythlpchojlddnbaa.RowK Go.Proofs.Ythlpchojlddnbaa.Gr Go.Proofs.Ythlpchojlddnbaa.DOk Go.Proofs.Ythlpchojlddnbaa.Opq Go.Proofs.Ythlpchojlddnbaa.Attr
set_option linter.unusedVariables false
theorem left_of {left : Int} {n B : Nat} {w w' : World} {e : Ending} (he : e = .returned (.int .i64 (if left < (n : Int) then -1 else left - n))) (hb : Below B w w') : Left left n B w e w' := by
  by_cases h : left < (n : Int)
  · rw [if_pos h] at he; exact ⟨_, he, .inl rfl, hb⟩
  · rw [if_neg h] at he; exact ⟨_, he, .inr ⟨by omega, rfl⟩, hb⟩
theorem szGrid_left (gw gh : Int) (A : Option Addr) (n c : Nat) (left : Int) (w : World) (hn : n ≤ 9223372036854775807) (h0 : 0 ≤ left) (h1 : left ≤ 1048576) :
    Calls Try.prog 10 #[.agg #[.int .i64 gw, .int .i64 gh, .slice A n c], .int .i64 left] w (Left left n w.heap.size w) := (szGrid_any gw gh A n c left w hn h0 h1).mono fun e w' h => left_of h.1 h.2
theorem szIntS_left (A : Option Addr) (n c : Nat) (left : Int) (w : World) (hn : n ≤ 9223372036854775807) (h0 : 0 ≤ left) (h1 : left ≤ 1048576) :
    Calls Try.prog 56 #[.slice A n c, .int .i64 left] w (Left left n w.heap.size w) := (szIntS_any A n c left w hn h0 h1).mono fun e w' h => left_of h.1 (h.2 ▸ Below.refl _ _)
structure LenS (s : ScrS) : Prop where
  M : s.M.cs.length ≤ 9223372036854775807
  A : s.A.cs.length ≤ 9223372036854775807
  t : s.tabs.length ≤ 9223372036854775807
  r : s.rows.length ≤ 9223372036854775807
  rc : ∀ r ∈ s.rows, r.cs.length ≤ 9223372036854775807
set_option maxRecDepth 100000 in
set_option maxHeartbeats 16000000 in
theorem szScr_any (s : ScrS) (left : Int) (w : World) (hr : RdR w w.heap.size s.bA s.rows) (hn : LenS s) (h0 : 0 ≤ left) (h1 : left ≤ 1048576) : Calls Try.prog 22 #[.agg (scrA s), .int .i64 left] w (Left left (szS s) w.heap.size w) := by
  obtain ⟨w_, h_, mw_, mh_, ⟨MA_, Mc_, Ms_⟩, aw_, ah_, ⟨AA_, Ac_, As_⟩, onAlt_, x_, y_, wrap_, fg_, bg_, b_, u_, t_, top_, bot_, noWrap_, hide_, sx_, sy_, sfg_, sbg_, sb_, su_, st_, tabsA_, tabsc_, tabs_, lim_, rowsA_, rowsc_, rows_⟩ := s
  have n1 := hn.M
  have n2 := hn.A
  have n3 := hn.t
  have n4 := hn.r
  have HC := Lib.hid hn.rc
  have HR := Lib.hid hr
  simp only [] at n1 n2 n3 n4 HC HR
  clear hn hr
  obtain ⟨d, hd⟩ : ∃ d, d = szS ⟨w_, h_, mw_, mh_, ⟨MA_, Mc_, Ms_⟩, aw_, ah_, ⟨AA_, Ac_, As_⟩, onAlt_, x_, y_, wrap_, fg_, bg_, b_, u_, t_, top_, bot_, noWrap_, hide_, sx_, sy_, sfg_, sbg_, sb_, su_, st_, tabsA_, tabsc_, tabs_, lim_, rowsA_, rowsc_, rows_⟩ := ⟨_, rfl⟩
  rw [← hd]
  have HD := Lib.hid hd
  clear hd
  show Calls _ _ #[.agg #[.int .i64 w_, .int .i64 h_, .int .i64 mw_, .int .i64 mh_, .slice MA_ Ms_.length Mc_, .int .i64 aw_, .int .i64 ah_, .slice AA_ As_.length Ac_, .bool onAlt_, .int .i64 x_, .int .i64 y_, .bool wrap_, .int .i64 fg_, .int .i64 bg_, .bool b_, .bool u_, .bool t_, .int .i64 top_, .int .i64 bot_, .bool noWrap_, .bool hide_, .int .i64 sx_, .int .i64 sy_, .int .i64 sfg_, .int .i64 sbg_, .bool sb_, .bool su_, .bool st_, .slice tabsA_ tabs_.length tabsc_, .int .i64 lim_, .slice rowsA_ rows_.length rowsc_], .int .i64 left] w _
  have hb0 := Lib.hid ((Below.refl w.heap.size w).alloc (Nat.le_refl _) (.cells #[.int .i64 w_, .int .i64 h_, .int .i64 mw_, .int .i64 mh_, .slice MA_ Ms_.length Mc_, .int .i64 aw_, .int .i64 ah_, .slice AA_ As_.length Ac_, .bool onAlt_, .int .i64 x_, .int .i64 y_, .bool wrap_, .int .i64 fg_, .int .i64 bg_, .bool b_, .bool u_, .bool t_, .int .i64 top_, .int .i64 bot_, .bool noWrap_, .bool hide_, .int .i64 sx_, .int .i64 sy_, .int .i64 sfg_, .int .i64 sbg_, .bool sb_, .bool su_, .bool st_, .slice tabsA_ tabs_.length tabsc_, .int .i64 lim_, .slice rowsA_ rows_.length rowsc_] 49))
  have BA0 := Lib.hid (RowB.new w #[.int .i64 w_, .int .i64 h_, .int .i64 mw_, .int .i64 mh_, .slice MA_ Ms_.length Mc_, .int .i64 aw_, .int .i64 ah_, .slice AA_ As_.length Ac_, .bool onAlt_, .int .i64 x_, .int .i64 y_, .bool wrap_, .int .i64 fg_, .int .i64 bg_, .bool b_, .bool u_, .bool t_, .int .i64 top_, .int .i64 bot_, .bool noWrap_, .bool hide_, .int .i64 sx_, .int .i64 sy_, .int .i64 sfg_, .int .i64 sbg_, .bool sb_, .bool su_, .bool st_, .slice tabsA_ tabs_.length tabsc_, .int .i64 lim_, .slice rowsA_ rows_.length rowsc_] 49)
  go_enter Try.func22, Try.ntmps22
  go_wp2_with fail
  refine (szGrid_left mw_ mh_ MA_ Ms_.length Mc_ left _ n1 h0 h1).mono ?_
  rintro e v1 ⟨l1, rfl, hl1, hb1⟩
  have HB1 := Lib.hid (hb0.out.trans (hb1.mono (by simp)))
  have BA1 := Lib.hid (BA0.out.below hb1 BA0.out.lt)
  have z1 : w.heap.size < v1.heap.size := BA1.out.lt
  clear hb1
  rcases hl1 with rfl | ⟨p1, hl1⟩
  · go_wp2_with fail
    go_ret
    exact ⟨-1, rfl, .inl rfl, HB1.out⟩
  have HL1 := Lib.hid hl1
  have q1 : l1 ≤ 1048576 := by omega
  clear hl1
  have ca5 : v1.cell? ⟨w.heap.size, 5, none⟩ = some (.int .i64 aw_) := BA1.out.cell 5
  have ca6 : v1.cell? ⟨w.heap.size, 6, none⟩ = some (.int .i64 ah_) := BA1.out.cell 6
  have ca7 : v1.cell? ⟨w.heap.size, 7, none⟩ = some (.slice AA_ As_.length Ac_) := BA1.out.cell 7
  go_wp2_with fail
  refine (szGrid_left aw_ ah_ AA_ As_.length Ac_ l1 _ n2 p1 q1).mono ?_
  rintro e v2 ⟨l2, rfl, hl2, hb2⟩
  clear ca5 ca6 ca7
  have HB2 := Lib.hid (HB1.out.trans (hb2.mono HB1.out.size))
  have BA2 := Lib.hid (BA1.out.below hb2 BA1.out.lt)
  have z2 : w.heap.size < v2.heap.size := BA2.out.lt
  clear hb2
  rcases hl2 with rfl | ⟨p2, hl2⟩
  · go_wp2_with fail
    go_ret
    exact ⟨-1, rfl, .inl rfl, HB2.out⟩
  have HL2 := Lib.hid hl2
  have q2 : l2 ≤ 1048576 := by omega
  clear hl2
  have ca28 : v2.cell? ⟨w.heap.size, 28, none⟩ = some (.slice tabsA_ tabs_.length tabsc_) := BA2.out.cell 28
  go_wp2_with fail
  refine (szIntS_left tabsA_ tabs_.length tabsc_ l2 _ n3 p2 q2).mono ?_
  rintro e v3 ⟨l3, rfl, hl3, hb3⟩
  clear ca28
  have HB3 := Lib.hid (HB2.out.trans (hb3.mono HB2.out.size))
  have BA3 := Lib.hid (BA2.out.below hb3 BA2.out.lt)
  have z3 : w.heap.size < v3.heap.size := BA3.out.lt
  clear hb3
  rcases hl3 with rfl | ⟨p3, hl3⟩
  · go_wp2_with fail
    go_ret
    exact ⟨-1, rfl, .inl rfl, HB3.out⟩
  have HL3 := Lib.hid hl3
  have q3 : l3 ≤ 1048576 := by omega
  clear hl3
  have ca30 : v3.cell? ⟨w.heap.size, 30, none⟩ = some (.slice rowsA_ rows_.length rowsc_) := BA3.out.cell 30
  go_wp2_with fail
  refine (szRowS_any rowsA_ rows_.length rowsc_ rows_ l3 _ ((HR.out.below (Nat.le_refl _) HB3.out).more HB3.out.size) rfl n4 HC.out p3 q3).mono ?_
  rintro e v4 ⟨l4, rfl, hl4, hb4⟩
  clear ca30
  have HB4 := Lib.hid (HB3.out.trans (hb4.mono HB3.out.size))
  have BA4 := Lib.hid (BA3.out.below hb4 BA3.out.lt)
  have z4 : w.heap.size < v4.heap.size := BA4.out.lt
  clear hb4
  rcases hl4 with rfl | ⟨p4, hl4⟩
  · go_wp2_with fail
    go_ret
    exact ⟨-1, rfl, .inl rfl, HB4.out⟩
  have HL4 := Lib.hid hl4
  have q4 : l4 ≤ 1048576 := by omega
  clear hl4
  go_wp2_with fail
  go_ret
  exact ⟨l4, rfl, .inr ⟨p4, by rw [HL4.out, HL3.out, HL2.out, HL1.out, HD.out]; unfold szS; simp only []; omega⟩, HB4.out⟩
set_option maxRecDepth 100000 in
set_option maxHeartbeats 32000000 in
theorem eqScr_lit {w_ h_ mw_ mh_ aw_ ah_ x_ y_ fg_ bg_ top_ bot_ sx_ sy_ sfg_ sbg_ lim_ : Int} {onAlt_ wrap_ b_ u_ t_ noWrap_ hide_ sb_ su_ st_ : Bool} {MA_ AA_ tabsA_ rowsA_ NA_ BA_ ubsA_ sowsA_ : Option Addr} {Mc_ Ac_ tabsc_ rowsc_ Nc_ Bc_ ubsc_ sowsc_ Mn An Tn Rn : Nat} {Ms_ As_ : List CellD} {tabs_ : List Int} {rows_ sows_ : List SlC} {w : World}
    (hM : RdC w w.heap.size MA_ Ms_) (hN : RdC w w.heap.size NA_ Ms_) (hA : RdC w w.heap.size AA_ As_) (hB : RdC w w.heap.size BA_ As_) (hT : RdI w w.heap.size tabsA_ tabs_) (hU : RdI w w.heap.size ubsA_ tabs_) (hR : RdR w w.heap.size rowsA_ rows_) (hS : RdR w w.heap.size sowsA_ sows_) (hRC : RdCs w w.heap.size rows_) (hSC : RdCs w w.heap.size sows_) (he : sows_.map (·.cs) = rows_.map (·.cs))
    (eM : Ms_.length = Mn) (eA : As_.length = An) (eT : tabs_.length = Tn) (eR : rows_.length = Rn) (n1 : Mn ≤ 1048576) (n2 : An ≤ 1048576) (n3 : Tn ≤ 1048576) (n4 : Rn ≤ 1048576) (hcn : ∀ r ∈ rows_, r.cs.length ≤ 1099511627776) :
    Calls Try.prog 26 #[.agg #[.int .i64 w_, .int .i64 h_, .int .i64 mw_, .int .i64 mh_, .slice MA_ Mn Mc_, .int .i64 aw_, .int .i64 ah_, .slice AA_ An Ac_, .bool onAlt_, .int .i64 x_, .int .i64 y_, .bool wrap_, .int .i64 fg_, .int .i64 bg_, .bool b_, .bool u_, .bool t_, .int .i64 top_, .int .i64 bot_, .bool noWrap_, .bool hide_, .int .i64 sx_, .int .i64 sy_, .int .i64 sfg_, .int .i64 sbg_, .bool sb_, .bool su_, .bool st_, .slice tabsA_ Tn tabsc_, .int .i64 lim_, .slice rowsA_ Rn rowsc_], .agg #[.int .i64 w_, .int .i64 h_, .int .i64 mw_, .int .i64 mh_, .slice NA_ Mn Nc_, .int .i64 aw_, .int .i64 ah_, .slice BA_ An Bc_, .bool onAlt_, .int .i64 x_, .int .i64 y_, .bool wrap_, .int .i64 fg_, .int .i64 bg_, .bool b_, .bool u_, .bool t_, .int .i64 top_, .int .i64 bot_, .bool noWrap_, .bool hide_, .int .i64 sx_, .int .i64 sy_, .int .i64 sfg_, .int .i64 sbg_, .bool sb_, .bool su_, .bool st_, .slice ubsA_ Tn ubsc_, .int .i64 lim_, .slice sowsA_ Rn sowsc_]] w fun e w' => e = .returned (.bool true) ∧ Below w.heap.size w w' := by
  have hb0 := Lib.hid (((Below.refl w.heap.size w).alloc (Nat.le_refl _) (.cells #[.int .i64 w_, .int .i64 h_, .int .i64 mw_, .int .i64 mh_, .slice MA_ Mn Mc_, .int .i64 aw_, .int .i64 ah_, .slice AA_ An Ac_, .bool onAlt_, .int .i64 x_, .int .i64 y_, .bool wrap_, .int .i64 fg_, .int .i64 bg_, .bool b_, .bool u_, .bool t_, .int .i64 top_, .int .i64 bot_, .bool noWrap_, .bool hide_, .int .i64 sx_, .int .i64 sy_, .int .i64 sfg_, .int .i64 sbg_, .bool sb_, .bool su_, .bool st_, .slice tabsA_ Tn tabsc_, .int .i64 lim_, .slice rowsA_ Rn rowsc_] 53)).alloc (by simp) (.cells #[.int .i64 w_, .int .i64 h_, .int .i64 mw_, .int .i64 mh_, .slice NA_ Mn Nc_, .int .i64 aw_, .int .i64 ah_, .slice BA_ An Bc_, .bool onAlt_, .int .i64 x_, .int .i64 y_, .bool wrap_, .int .i64 fg_, .int .i64 bg_, .bool b_, .bool u_, .bool t_, .int .i64 top_, .int .i64 bot_, .bool noWrap_, .bool hide_, .int .i64 sx_, .int .i64 sy_, .int .i64 sfg_, .int .i64 sbg_, .bool sb_, .bool su_, .bool st_, .slice ubsA_ Tn ubsc_, .int .i64 lim_, .slice sowsA_ Rn sowsc_] 53))
  have BX0 := Lib.hid ((RowB.new w #[.int .i64 w_, .int .i64 h_, .int .i64 mw_, .int .i64 mh_, .slice MA_ Mn Mc_, .int .i64 aw_, .int .i64 ah_, .slice AA_ An Ac_, .bool onAlt_, .int .i64 x_, .int .i64 y_, .bool wrap_, .int .i64 fg_, .int .i64 bg_, .bool b_, .bool u_, .bool t_, .int .i64 top_, .int .i64 bot_, .bool noWrap_, .bool hide_, .int .i64 sx_, .int .i64 sy_, .int .i64 sfg_, .int .i64 sbg_, .bool sb_, .bool su_, .bool st_, .slice tabsA_ Tn tabsc_, .int .i64 lim_, .slice rowsA_ Rn rowsc_] 53).alloc (.cells #[.int .i64 w_, .int .i64 h_, .int .i64 mw_, .int .i64 mh_, .slice NA_ Mn Nc_, .int .i64 aw_, .int .i64 ah_, .slice BA_ An Bc_, .bool onAlt_, .int .i64 x_, .int .i64 y_, .bool wrap_, .int .i64 fg_, .int .i64 bg_, .bool b_, .bool u_, .bool t_, .int .i64 top_, .int .i64 bot_, .bool noWrap_, .bool hide_, .int .i64 sx_, .int .i64 sy_, .int .i64 sfg_, .int .i64 sbg_, .bool sb_, .bool su_, .bool st_, .slice ubsA_ Tn ubsc_, .int .i64 lim_, .slice sowsA_ Rn sowsc_] 53))
  have by_ := RowB.new (w.alloc (.cells #[.int .i64 w_, .int .i64 h_, .int .i64 mw_, .int .i64 mh_, .slice MA_ Mn Mc_, .int .i64 aw_, .int .i64 ah_, .slice AA_ An Ac_, .bool onAlt_, .int .i64 x_, .int .i64 y_, .bool wrap_, .int .i64 fg_, .int .i64 bg_, .bool b_, .bool u_, .bool t_, .int .i64 top_, .int .i64 bot_, .bool noWrap_, .bool hide_, .int .i64 sx_, .int .i64 sy_, .int .i64 sfg_, .int .i64 sbg_, .bool sb_, .bool su_, .bool st_, .slice tabsA_ Tn tabsc_, .int .i64 lim_, .slice rowsA_ Rn rowsc_] 53)) #[.int .i64 w_, .int .i64 h_, .int .i64 mw_, .int .i64 mh_, .slice NA_ Mn Nc_, .int .i64 aw_, .int .i64 ah_, .slice BA_ An Bc_, .bool onAlt_, .int .i64 x_, .int .i64 y_, .bool wrap_, .int .i64 fg_, .int .i64 bg_, .bool b_, .bool u_, .bool t_, .int .i64 top_, .int .i64 bot_, .bool noWrap_, .bool hide_, .int .i64 sx_, .int .i64 sy_, .int .i64 sfg_, .int .i64 sbg_, .bool sb_, .bool su_, .bool st_, .slice ubsA_ Tn ubsc_, .int .i64 lim_, .slice sowsA_ Rn sowsc_] 53
  simp only [World.size_alloc] at by_
  have BY0 := Lib.hid by_
  clear by_
  have HM := Lib.hid hM
  have HN := Lib.hid hN
  have HA := Lib.hid hA
  have HB := Lib.hid hB
  have HT := Lib.hid hT
  have HU := Lib.hid hU
  have HR := Lib.hid hR
  have HS := Lib.hid hS
  have HRC := Lib.hid hRC
  have HSC := Lib.hid hSC
  have HE := Lib.hid he
  have EM := Lib.hid eM
  have EA := Lib.hid eA
  have ET := Lib.hid eT
  have ER := Lib.hid eR
  have HCN := Lib.hid hcn
  clear hM hN hA hB hT hU hR hS hRC hSC he eM eA eT eR hcn
  have ne_w : (w_ != w_) = false := by simp
  have ne_h : (h_ != h_) = false := by simp
  have ne_mw : (mw_ != mw_) = false := by simp
  have ne_mh : (mh_ != mh_) = false := by simp
  have ne_aw : (aw_ != aw_) = false := by simp
  have ne_ah : (ah_ != ah_) = false := by simp
  have ne_onAlt : (onAlt_ != onAlt_) = false := by simp
  have ne_x : (x_ != x_) = false := by simp
  have ne_y : (y_ != y_) = false := by simp
  have ne_wrap : (wrap_ != wrap_) = false := by simp
  have ne_fg : (fg_ != fg_) = false := by simp
  have ne_bg : (bg_ != bg_) = false := by simp
  have ne_b : (b_ != b_) = false := by simp
  have ne_u : (u_ != u_) = false := by simp
  have ne_t : (t_ != t_) = false := by simp
  have ne_top : (top_ != top_) = false := by simp
  have ne_bot : (bot_ != bot_) = false := by simp
  have ne_noWrap : (noWrap_ != noWrap_) = false := by simp
  have ne_hide : (hide_ != hide_) = false := by simp
  have ne_sx : (sx_ != sx_) = false := by simp
  have ne_sy : (sy_ != sy_) = false := by simp
  have ne_sfg : (sfg_ != sfg_) = false := by simp
  have ne_sbg : (sbg_ != sbg_) = false := by simp
  have ne_sb : (sb_ != sb_) = false := by simp
  have ne_su : (su_ != su_) = false := by simp
  have ne_st : (st_ != st_) = false := by simp
  have ne_lim : (lim_ != lim_) = false := by simp
  go_enter Try.func26, Try.ntmps26
  go_wp2_with fail
  refine (eqGrid_yes mw_ mh_ MA_ NA_ Mn Mc_ Nc_ Ms_ _ ((HM.out.below (Nat.le_refl _) hb0.out).more hb0.out.size) ((HN.out.below (Nat.le_refl _) hb0.out).more hb0.out.size) EM.out (by omega)).mono ?_
  rintro e v1 ⟨rfl, hb1⟩
  have HB1 := Lib.hid (hb0.out.trans (hb1.mono (by simp; omega)))
  have BX1 := Lib.hid (BX0.out.below hb1 BX0.out.lt)
  have BY1 := Lib.hid (BY0.out.below hb1 BY0.out.lt)
  have zx1 : w.heap.size < v1.heap.size := BX1.out.lt
  have zy1 : w.heap.size + 1 < v1.heap.size := BY1.out.lt
  clear hb1
  have cx5 : v1.cell? ⟨w.heap.size, 5, none⟩ = some (.int .i64 aw_) := BX1.out.cell 5
  have cy5 : v1.cell? ⟨w.heap.size + 1, 5, none⟩ = some (.int .i64 aw_) := BY1.out.cell 5
  have cx6 : v1.cell? ⟨w.heap.size, 6, none⟩ = some (.int .i64 ah_) := BX1.out.cell 6
  have cy6 : v1.cell? ⟨w.heap.size + 1, 6, none⟩ = some (.int .i64 ah_) := BY1.out.cell 6
  have cx7 : v1.cell? ⟨w.heap.size, 7, none⟩ = some (.slice AA_ An Ac_) := BX1.out.cell 7
  have cy7 : v1.cell? ⟨w.heap.size + 1, 7, none⟩ = some (.slice BA_ An Bc_) := BY1.out.cell 7
  go_wp2_with fail
  refine (eqGrid_yes aw_ ah_ AA_ BA_ An Ac_ Bc_ As_ _ ((HA.out.below (Nat.le_refl _) HB1.out).more HB1.out.size) ((HB.out.below (Nat.le_refl _) HB1.out).more HB1.out.size) EA.out (by omega)).mono ?_
  rintro e v2 ⟨rfl, hb2⟩
  clear cx5 cy5 cx6 cy6 cx7 cy7
  have HB2 := Lib.hid (HB1.out.trans (hb2.mono HB1.out.size))
  have BX2 := Lib.hid (BX1.out.below hb2 BX1.out.lt)
  have BY2 := Lib.hid (BY1.out.below hb2 BY1.out.lt)
  have zx2 : w.heap.size < v2.heap.size := BX2.out.lt
  have zy2 : w.heap.size + 1 < v2.heap.size := BY2.out.lt
  clear hb2
  have cx8 : v2.cell? ⟨w.heap.size, 8, none⟩ = some (.bool onAlt_) := BX2.out.cell 8
  have cy8 : v2.cell? ⟨w.heap.size + 1, 8, none⟩ = some (.bool onAlt_) := BY2.out.cell 8
  have cx9 : v2.cell? ⟨w.heap.size, 9, none⟩ = some (.int .i64 x_) := BX2.out.cell 9
  have cy9 : v2.cell? ⟨w.heap.size + 1, 9, none⟩ = some (.int .i64 x_) := BY2.out.cell 9
  have cx10 : v2.cell? ⟨w.heap.size, 10, none⟩ = some (.int .i64 y_) := BX2.out.cell 10
  have cy10 : v2.cell? ⟨w.heap.size + 1, 10, none⟩ = some (.int .i64 y_) := BY2.out.cell 10
  have cx11 : v2.cell? ⟨w.heap.size, 11, none⟩ = some (.bool wrap_) := BX2.out.cell 11
  have cy11 : v2.cell? ⟨w.heap.size + 1, 11, none⟩ = some (.bool wrap_) := BY2.out.cell 11
  have cx12 : v2.cell? ⟨w.heap.size, 12, none⟩ = some (.int .i64 fg_) := BX2.out.cell 12
  have cy12 : v2.cell? ⟨w.heap.size + 1, 12, none⟩ = some (.int .i64 fg_) := BY2.out.cell 12
  have cx13 : v2.cell? ⟨w.heap.size, 13, none⟩ = some (.int .i64 bg_) := BX2.out.cell 13
  have cy13 : v2.cell? ⟨w.heap.size + 1, 13, none⟩ = some (.int .i64 bg_) := BY2.out.cell 13
  have cx14 : v2.cell? ⟨w.heap.size, 14, none⟩ = some (.bool b_) := BX2.out.cell 14
  have cy14 : v2.cell? ⟨w.heap.size + 1, 14, none⟩ = some (.bool b_) := BY2.out.cell 14
  have cx15 : v2.cell? ⟨w.heap.size, 15, none⟩ = some (.bool u_) := BX2.out.cell 15
  have cy15 : v2.cell? ⟨w.heap.size + 1, 15, none⟩ = some (.bool u_) := BY2.out.cell 15
  have cx16 : v2.cell? ⟨w.heap.size, 16, none⟩ = some (.bool t_) := BX2.out.cell 16
  have cy16 : v2.cell? ⟨w.heap.size + 1, 16, none⟩ = some (.bool t_) := BY2.out.cell 16
  go_wp2_with fail
  refine (eqAttr_yes fg_ bg_ b_ u_ t_ _).mono ?_
  rintro e v3 ⟨rfl, hb3⟩
  clear cx8 cy8 cx9 cy9 cx10 cy10 cx11 cy11 cx12 cy12 cx13 cy13 cx14 cy14 cx15 cy15 cx16 cy16
  have HB3 := Lib.hid (HB2.out.trans (hb3.mono HB2.out.size))
  have BX3 := Lib.hid (BX2.out.below hb3 BX2.out.lt)
  have BY3 := Lib.hid (BY2.out.below hb3 BY2.out.lt)
  have zx3 : w.heap.size < v3.heap.size := BX3.out.lt
  have zy3 : w.heap.size + 1 < v3.heap.size := BY3.out.lt
  clear hb3
  have cx17 : v3.cell? ⟨w.heap.size, 17, none⟩ = some (.int .i64 top_) := BX3.out.cell 17
  have cy17 : v3.cell? ⟨w.heap.size + 1, 17, none⟩ = some (.int .i64 top_) := BY3.out.cell 17
  have cx18 : v3.cell? ⟨w.heap.size, 18, none⟩ = some (.int .i64 bot_) := BX3.out.cell 18
  have cy18 : v3.cell? ⟨w.heap.size + 1, 18, none⟩ = some (.int .i64 bot_) := BY3.out.cell 18
  have cx19 : v3.cell? ⟨w.heap.size, 19, none⟩ = some (.bool noWrap_) := BX3.out.cell 19
  have cy19 : v3.cell? ⟨w.heap.size + 1, 19, none⟩ = some (.bool noWrap_) := BY3.out.cell 19
  have cx20 : v3.cell? ⟨w.heap.size, 20, none⟩ = some (.bool hide_) := BX3.out.cell 20
  have cy20 : v3.cell? ⟨w.heap.size + 1, 20, none⟩ = some (.bool hide_) := BY3.out.cell 20
  have cx21 : v3.cell? ⟨w.heap.size, 21, none⟩ = some (.int .i64 sx_) := BX3.out.cell 21
  have cy21 : v3.cell? ⟨w.heap.size + 1, 21, none⟩ = some (.int .i64 sx_) := BY3.out.cell 21
  have cx22 : v3.cell? ⟨w.heap.size, 22, none⟩ = some (.int .i64 sy_) := BX3.out.cell 22
  have cy22 : v3.cell? ⟨w.heap.size + 1, 22, none⟩ = some (.int .i64 sy_) := BY3.out.cell 22
  have cx23 : v3.cell? ⟨w.heap.size, 23, none⟩ = some (.int .i64 sfg_) := BX3.out.cell 23
  have cy23 : v3.cell? ⟨w.heap.size + 1, 23, none⟩ = some (.int .i64 sfg_) := BY3.out.cell 23
  have cx24 : v3.cell? ⟨w.heap.size, 24, none⟩ = some (.int .i64 sbg_) := BX3.out.cell 24
  have cy24 : v3.cell? ⟨w.heap.size + 1, 24, none⟩ = some (.int .i64 sbg_) := BY3.out.cell 24
  have cx25 : v3.cell? ⟨w.heap.size, 25, none⟩ = some (.bool sb_) := BX3.out.cell 25
  have cy25 : v3.cell? ⟨w.heap.size + 1, 25, none⟩ = some (.bool sb_) := BY3.out.cell 25
  have cx26 : v3.cell? ⟨w.heap.size, 26, none⟩ = some (.bool su_) := BX3.out.cell 26
  have cy26 : v3.cell? ⟨w.heap.size + 1, 26, none⟩ = some (.bool su_) := BY3.out.cell 26
  have cx27 : v3.cell? ⟨w.heap.size, 27, none⟩ = some (.bool st_) := BX3.out.cell 27
  have cy27 : v3.cell? ⟨w.heap.size + 1, 27, none⟩ = some (.bool st_) := BY3.out.cell 27
  go_wp2_with fail
  refine (eqAttr_yes sfg_ sbg_ sb_ su_ st_ _).mono ?_
  rintro e v4 ⟨rfl, hb4⟩
  clear cx17 cy17 cx18 cy18 cx19 cy19 cx20 cy20 cx21 cy21 cx22 cy22 cx23 cy23 cx24 cy24 cx25 cy25 cx26 cy26 cx27 cy27
  have HB4 := Lib.hid (HB3.out.trans (hb4.mono HB3.out.size))
  have BX4 := Lib.hid (BX3.out.below hb4 BX3.out.lt)
  have BY4 := Lib.hid (BY3.out.below hb4 BY3.out.lt)
  have zx4 : w.heap.size < v4.heap.size := BX4.out.lt
  have zy4 : w.heap.size + 1 < v4.heap.size := BY4.out.lt
  clear hb4
  have cx28 : v4.cell? ⟨w.heap.size, 28, none⟩ = some (.slice tabsA_ Tn tabsc_) := BX4.out.cell 28
  have cy28 : v4.cell? ⟨w.heap.size + 1, 28, none⟩ = some (.slice ubsA_ Tn ubsc_) := BY4.out.cell 28
  go_wp2_with fail
  refine (eqIntS_yes tabsA_ ubsA_ Tn tabsc_ ubsc_ tabs_ _ ((HT.out.below (Nat.le_refl _) HB4.out).more HB4.out.size) ((HU.out.below (Nat.le_refl _) HB4.out).more HB4.out.size) ET.out (by omega)).mono ?_
  rintro e v5 ⟨rfl, hb5⟩
  clear cx28 cy28
  have HB5 := Lib.hid (HB4.out.trans (hb5.mono HB4.out.size))
  have BX5 := Lib.hid (BX4.out.below hb5 BX4.out.lt)
  have BY5 := Lib.hid (BY4.out.below hb5 BY4.out.lt)
  have zx5 : w.heap.size < v5.heap.size := BX5.out.lt
  have zy5 : w.heap.size + 1 < v5.heap.size := BY5.out.lt
  clear hb5
  have cx29 : v5.cell? ⟨w.heap.size, 29, none⟩ = some (.int .i64 lim_) := BX5.out.cell 29
  have cy29 : v5.cell? ⟨w.heap.size + 1, 29, none⟩ = some (.int .i64 lim_) := BY5.out.cell 29
  have cx30 : v5.cell? ⟨w.heap.size, 30, none⟩ = some (.slice rowsA_ Rn rowsc_) := BX5.out.cell 30
  have cy30 : v5.cell? ⟨w.heap.size + 1, 30, none⟩ = some (.slice sowsA_ Rn sowsc_) := BY5.out.cell 30
  go_wp2_with fail
  refine (eqRowS_yes rowsA_ sowsA_ Rn rowsc_ sowsc_ rows_ sows_ _ ((HR.out.below (Nat.le_refl _) HB5.out).more HB5.out.size) ((HS.out.below (Nat.le_refl _) HB5.out).more HB5.out.size) ER.out (by omega) HE.out ((HRC.out.below (Nat.le_refl _) HB5.out).more HB5.out.size) ((HSC.out.below (Nat.le_refl _) HB5.out).more HB5.out.size) HCN.out).mono ?_
  rintro e v6 ⟨rfl, hb6⟩
  clear cx29 cy29 cx30 cy30
  have HB6 := Lib.hid (HB5.out.trans (hb6.mono HB5.out.size))
  have BX6 := Lib.hid (BX5.out.below hb6 BX5.out.lt)
  have BY6 := Lib.hid (BY5.out.below hb6 BY5.out.lt)
  have zx6 : w.heap.size < v6.heap.size := BX6.out.lt
  have zy6 : w.heap.size + 1 < v6.heap.size := BY6.out.lt
  clear hb6
  go_wp2_with fail
  go_ret
  exact ⟨rfl, HB6.out⟩
theorem eqScr_yes {s s' : ScrS} {w : World} (h1 : RdS w w.heap.size s) (h2 : RdS w w.heap.size s') (he : s'.data = s.data) (hn : szS s ≤ 1048576) :
    Calls Try.prog 26 #[.agg (scrA s), .agg (scrA s')] w fun e w' => e = .returned (.bool true) ∧ Below w.heap.size w w' := by
  have hrl : s'.rows.length = s.rows.length := by
    have := congrArg (fun d => d.rows.length) he
    simpa [ScrS.data] using this
  unfold szS at hn
  have hcn : ∀ r ∈ s.rows, r.cs.length ≤ 1099511627776 := fun r hr => by have := tot_mem hr; omega
  obtain ⟨w_, h_, mw_, mh_, ⟨MA_, Mc_, Ms_⟩, aw_, ah_, ⟨AA_, Ac_, As_⟩, onAlt_, x_, y_, wrap_, fg_, bg_, b_, u_, t_, top_, bot_, noWrap_, hide_, sx_, sy_, sfg_, sbg_, sb_, su_, st_, tabsA_, tabsc_, tabs_, lim_, rowsA_, rowsc_, rows_⟩ := s
  obtain ⟨wq, hq, mwq, mhq, ⟨MAq, Mcq, Msq⟩, awq, ahq, ⟨AAq, Acq, Asq⟩, onAltq, xq, yq, wrapq, fgq, bgq, bq, uq, tq, topq, botq, noWrapq, hideq, sxq, syq, sfgq, sbgq, sbq, suq, stq, tabsAq, tabscq, tabsq, limq, rowsAq, rowscq, rowsq⟩ := s'
  simp only [ScrS.data, ScrD.mk.injEq] at he
  obtain ⟨rfl, rfl, rfl, rfl, rfl, rfl, rfl, rfl, rfl, rfl, rfl, rfl, rfl, rfl, rfl, rfl, rfl, rfl, rfl, rfl, rfl, rfl, rfl, rfl, rfl, rfl, rfl, rfl, rfl, rfl, hrows⟩ := he
  simp only [] at hrl hn hcn
  unfold scrA scrL
  simp only []
  rw [hrl]
  exact eqScr_lit h1.M h2.M h1.A h2.A h1.t h2.t h1.r h2.r h1.rc h2.rc hrows rfl rfl rfl rfl (by omega) (by omega) (by omega) (by omega) hcn
end Go.Proofs.Ythlpchojlddnbaa.Sc

