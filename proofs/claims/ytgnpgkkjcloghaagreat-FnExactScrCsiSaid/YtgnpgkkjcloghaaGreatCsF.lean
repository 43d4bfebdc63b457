/- The control sequences m, h and l, in the program. -/
import Derived.Test.YtgnpgkkjcloghaaGreatCsE
import Derived.Test.YtgnpgkkjcloghaaGreatKm14
set_option maxRecDepth 100000
set_option maxHeartbeats 3200000
set_option linter.unusedVariables false
namespace Go.Proofs.YtgnpgkkjcloghaaGreat.Sc
open Lib
open Go.RowKit Bytes Rows_ RowK Gr DOk Opq Attr
attribute [local go_sem ↓] Sc.exec_storeS Sc.exec_loadS
attribute [local go_sem] blkOf_ptr isHead_ptr aggN_agg setRow_alloc rowZ_at rowZ_past scrA_size nsA_size one_scr rowOf_alloc_at rowOf_alloc_past rowOf_drew ns_pre
attribute [local go_sem] sa_w sa_h sa_mw sa_mh sa_M sa_aw sa_ah sa_A sa_onAlt sa_x sa_y sa_wrap sa_fg sa_bg sa_b sa_u sa_t sa_top sa_bot sa_noWrap sa_hide sa_sx sa_sy sa_sfg sa_sbg sa_sb sa_su sa_st sa_tabs sa_lim sa_rows
attribute [local go_sem] ns_w ns_h ns_mw ns_mh ns_M ns_aw ns_ah ns_A ns_onAlt ns_x ns_y ns_wrap ns_fg ns_bg ns_b ns_u ns_t ns_top ns_bot ns_noWrap ns_hide ns_sx ns_sy ns_sfg ns_sbg ns_sb ns_su ns_st ns_tabs ns_lim ns_rows
attribute [local go_sem] ns_at0 ns_at1 ns_at2 ns_at3 ns_at4 ns_at5 ns_at6 ns_at7 ns_at8 ns_at9 ns_at10 ns_at11 ns_at12 ns_at13 ns_at14 ns_at15 ns_at16 ns_at17 ns_at18 ns_at19 ns_at20 ns_at21 ns_at22 ns_at23 ns_at24 ns_at25 ns_at26 ns_at27 ns_at28 ns_at29 ns_at30 ns_at31 ns_at32 ns_at33 ns_at34 ns_at35 ns_at36 ns_at37
attribute [local go_sem] scr_at0 scr_at1 scr_at2 scr_at3 scr_at4 scr_at5 scr_at6 scr_at7 scr_at8 scr_at9 scr_at10 scr_at11 scr_at12 scr_at13 scr_at14 scr_at15 scr_at16 scr_at17 scr_at18 scr_at19 scr_at20 scr_at21 scr_at22 scr_at23 scr_at24 scr_at25 scr_at26 scr_at27 scr_at28 scr_at29 scr_at30
theorem over_all (cs : List CellD) (x : CellD) : over cs 0 (List.replicate cs.length x) = List.replicate cs.length x := by
  unfold over; simp
theorem modesD_snoc (d : ScrD) (zs : List Int) (on : Bool) (k : Nat) (hk : k < zs.length) : modesD d (zs.take (k + 1)) on = modeD (modesD d (zs.take k) on) zs[k] on := by
  unfold modesD
  rw [List.take_add_one, List.getElem?_eq_getElem hk, List.foldl_append]; rfl
theorem seq16_any (t : ScrS) (g B : Nat) (A : Option Addr) (n c : Nat) (zs : List Int) (w : World) (h : SqIn t g B A n c zs w) :
    Calls Tryz.prog 137 #[.pointer (some ⟨g, 0, none⟩), .slice A n c] w (Mth B g (attrD t.data (sgr (curA t.data) zs)) w) := by
  have HN := hid h.r
  have HO := hid h.o
  have hB := h.B
  have hgl := h.r.lt
  have hn := h.n
  obtain ⟨a, ha⟩ : ∃ a, a = sgr ⟨t.fg, t.bg, t.b, t.u, t.t⟩ zs := ⟨_, rfl⟩
  have HD := hid (show attrD t.data (sgr (curA t.data) zs) = attrD t.data a from by rw [ha]; rfl)
  have HS := hid (show Calls Tryz.prog 138 #[.agg #[.int .i64 t.fg, .int .i64 t.bg, .bool t.b, .bool t.u, .bool t.t], .slice A n c] w fun e v => e = .returned (.agg #[.int .i64 a.fg, .int .i64 a.bg, .bool a.b, .bool a.u, .bool a.t]) ∧ Below w.heap.size w v from by
    rw [ha]; exact impl_Sgr_any t.fg t.bg t.b t.u t.t A n c zs w h.a h.l (by omega))
  have k12 : w.cell? ⟨g, 12, none⟩ = some (.int .i64 t.fg) := h.r.cell 12
  have k13 : w.cell? ⟨g, 13, none⟩ = some (.int .i64 t.bg) := h.r.cell 13
  have k14 : w.cell? ⟨g, 14, none⟩ = some (.bool t.b) := h.r.cell 14
  have k15 : w.cell? ⟨g, 15, none⟩ = some (.bool t.u) := h.r.cell 15
  have k16 : w.cell? ⟨g, 16, none⟩ = some (.bool t.t) := h.r.cell 16
  clear h ha
  go_enter Tryz.func137, Tryz.ntmps137
  go_wp2_with fail
  refine HS.out.mono ?_
  rintro e v ⟨rfl, hb⟩
  have HN2 := hid (HN.out.below hb hgl)
  have HO2 := hid (HO.out.below (Nat.le_refl _) hb)
  have HB2 := hid (hb.mono (by omega : B ≤ w.heap.size))
  clear hb HS k12 k13 k14 k15 k16
  have j12 : v.cell? ⟨g, 12, none⟩ = some (.int .i64 t.fg) := HN2.out.cell 12
  have j13 : v.cell? ⟨g, 13, none⟩ = some (.int .i64 t.bg) := HN2.out.cell 13
  have j14 : v.cell? ⟨g, 14, none⟩ = some (.bool t.b) := HN2.out.cell 14
  have j15 : v.cell? ⟨g, 15, none⟩ = some (.bool t.u) := HN2.out.cell 15
  have j16 : v.cell? ⟨g, 16, none⟩ = some (.bool t.t) := HN2.out.cell 16
  have hf := HN2.out.free
  go_wp2_with fail
  go_end0
  obtain ⟨t2, h1, h2, h3, h4⟩ := fld_end HN2.out HO2.out hB (RowN.s_t (z := a.t) (RowN.s_u (z := a.u) (RowN.s_b (z := a.b) (RowN.s_bg (z := a.bg) (RowN.s_fg (z := a.fg) HN2.out))))) (((((Only.refl (fun i => i = g) v).trans (Only.cell_ _ g 12 _ rfl)).trans (Only.cell_ _ g 13 _ rfl)).trans (Only.cell_ _ g 14 _ rfl)).trans (Only.cell_ _ g 15 _ rfl) |>.trans (Only.cell_ _ g 16 _ rfl)) (fun h => ⟨h.c, h.t, h.r⟩) HD.out.symm
  exact ⟨rfl, t2, h1, h2, h3, HB2.out.trans h4⟩
theorem showAlt_any (t : ScrS) (g B : Nat) (on : Bool) (w : World) (hg : RowN w g t) (ho : OwnS w B t) (hok : okD t.data = true) (hB : B ≤ g) :
    Calls Tryz.prog 169 #[.pointer (some ⟨g, 0, none⟩), .bool on] w (Mth B g (altD t.data on) w) := by
  have HN := hid hg
  have HO := hid ho
  have hgl := hg.lt
  obtain ⟨W, H, X, Y, T, Bt, L, fit⟩ := ok_fit hok
  have ew : t.w = (W : Int) := fit.w
  have eh : t.h = (H : Int) := fit.h
  have q1 := fit.w1; have q2 := fit.w2; have q3 := fit.h1; have q4 := fit.h2; have q7 := fit.wh
  have k8 : w.cell? ⟨g, 8, none⟩ = some (.bool t.onAlt) := hg.cell 8
  have hf := hg.free
  by_cases he : t.onAlt = on
  · have HD := hid (show t.data = altD t.data on from by unfold altD; rw [if_pos (show t.data.onAlt = on from he)])
    rw [he] at k8
    clear hg ho fit hok ew eh he
    go_enter Tryz.func169, Tryz.ntmps169
    go_wp2_with fail
    go_end0
    exact ⟨rfl, _, HN.out, HO.out, HD.out, Below.refl B w⟩
  cases on
  · have he' : t.onAlt = true := by cases h : t.onAlt; exact absurd h he; rfl
    have hokd : okD { t with onAlt := false }.data = true := okD_t (okD_iff.1 hok)
    have HD := hid (show (bacS { t with onAlt := false }).data = altD t.data false from by
      unfold altD
      rw [if_neg (by rw [show t.data.onAlt = true from he']; decide), if_neg (by decide), bacS_data hokd]; rfl)
    have HBC := hid (fun V (h : RowN V g { t with onAlt := false }) => restoreCursor_any { t with onAlt := false } g V h (by show 1 ≤ t.w; omega) (by show t.w ≤ 120; omega) (by show 1 ≤ t.h; omega) (by show t.h ≤ 120; omega))
    rw [he'] at k8
    clear hg ho fit hok hokd ew eh he he'
    go_enter Tryz.func169, Tryz.ntmps169
    go_wp2_with fail
    refine (HBC.out _ (RowN.s_onAlt (z := false) HN.out)).mono ?_
    rintro e v ⟨rfl, hR, hon⟩
    have HR := hid hR
    have HON := hid ((Only.cell_ (S := fun i => i = g) w g 8 (.bool false) rfl).trans hon)
    clear hR hon HBC k8 hf
    go_wp2_with fail
    go_end0
    exact ⟨rfl, fld_end HN.out HO.out hB HR.out HON.out (fun h => ⟨h.c, h.t, h.r⟩) HD.out⟩
  · have he' : t.onAlt = false := by cases h : t.onAlt; rfl; exact absurd h he
    have hal : t.A.cs.length = W * H := fit.al
    obtain ⟨q, hq⟩ := own_addr ho.a (by rw [hal]; exact Nat.mul_pos (by omega) (by omega))
    obtain ⟨N, hNN⟩ : ∃ N, N = t.A.cs.length := ⟨_, rfl⟩
    have HD := hid (show altD t.data true = putD (savS { t with onAlt := true }).data (over t.A.cs 0 (List.replicate N blankC)) from by
      unfold altD
      rw [if_neg (by rw [show t.data.onAlt = false from he']; decide), if_pos rfl, hNN, over_all]; rfl)
    have HL := hid (show (over t.A.cs 0 (List.replicate N blankC)).length = (shC (savS { t with onAlt := true })).cs.length from by rw [hNN, over_all, List.length_replicate]; rfl)
    have HQ := hid (show (shC (savS { t with onAlt := true })).A = some ⟨q, 0, none⟩ from hq)
    have HSV := hid (fun V (h : RowN V g { t with onAlt := true }) => saveCursor_any { t with onAlt := true } g V h)
    have hNb : N ≤ 2097152 := by omega
    have hNe := hid hNN
    have HQ2 := hid hq
    rw [he'] at k8
    clear hg ho fit hok ew eh he he' hal hq
    go_enter Tryz.func169, Tryz.ntmps169
    go_wp2_with fail
    refine (HSV.out _ (RowN.s_onAlt (z := true) HN.out)).mono ?_
    rintro e v ⟨rfl, hR, hon⟩
    have HR := hid hR
    have HM := hid (fld_mid HN.out HO.out hB ((Only.cell_ (S := fun i => i = g) w g 8 (.bool true) rfl).trans hon))
    have HO2 := hid (show OwnS v B (savS { t with onAlt := true }) from ⟨HM.out.1.c, HM.out.1.t, HM.out.1.r⟩)
    have j37 : v.cell? ⟨g, 37, none⟩ = some (.slice (some ⟨q, 0, none⟩) N t.A.c) := by rw [hNe.out, ← HQ2.out]; exact hR.cell 37
    have HE := hid (erase_any (some ⟨q, 0, none⟩) 0 N t.A.c (base := B) (g := q) (n := N) (c := t.A.c) (cs := t.A.cs) v (by rw [hNe.out, ← HQ2.out]; exact HM.out.1.a) (by omega) hNb (fun _ => by rw [Nat.zero_mul]))
    clear hR hon HSV k8 hf hNN
    go_wp2_with fail
    refine HE.out.mono ?_
    rintro e v2 ⟨rfl, ho2, on2⟩
    have HO3 := hid ho2
    have ON3 := hid on2
    clear ho2 on2 HE j37
    go_wp2_with fail
    go_end0
    have hoc : OwnC v2 B (some ⟨q, 0, none⟩) (shC (savS { t with onAlt := true })).cs.length (shC (savS { t with onAlt := true })).c (over t.A.cs 0 (List.replicate N blankC)) := by
      have h := HO3.out
      have e1 : (shC (savS { t with onAlt := true })).cs.length = N := hNe.out.symm
      rw [e1]; exact h
    obtain ⟨t2, h1, h2, h3, h4⟩ := shown_end (w := v) (w1 := v) HR.out HO2.out hB (Below.refl _ v) HQ.out HL.out hoc ON3.out HD.out
    exact ⟨rfl, t2, h1, h2, h3, HM.out.2.trans h4⟩
theorem setMode_any (t : ScrS) (g B : Nat) (m : Int) (on : Bool) (w : World) (hg : RowN w g t) (ho : OwnS w B t) (hok : okD t.data = true) (hB : B ≤ g) :
    Calls Tryz.prog 161 #[.pointer (some ⟨g, 0, none⟩), .int .i64 m, .bool on] w (Mth B g (modeD t.data m on) w) := by
  have HN := hid hg
  have HO := hid ho
  have hgl := hg.lt
  have HSA := hid (showAlt_any t g B on w hg ho hok hB)
  have k11 : w.cell? ⟨g, 11, none⟩ = some (.bool t.wrap) := hg.cell 11
  have k19 : w.cell? ⟨g, 19, none⟩ = some (.bool t.noWrap) := hg.cell 19
  have k20 : w.cell? ⟨g, 20, none⟩ = some (.bool t.hide) := hg.cell 20
  have hf := hg.free
  by_cases h7 : m = 7
  · subst h7
    cases hw : t.wrap
    · cases on
      · have HD := hid (show ({ t with noWrap := true, wrap := false } : ScrS).data = modeD t.data 7 false from by
          unfold modeD noWrapD; rw [if_pos rfl, show t.data.wrap = false from hw]; rfl)
        rw [hw] at k11
        clear hg ho hok HSA hw
        go_enter Tryz.func161, Tryz.ntmps161
        go_wp2_with fail
        go_end0
        exact ⟨rfl, fld_end HN.out HO.out hB (RowN.s_wrap (z := false) (RowN.s_noWrap (z := true) HN.out)) ((Only.cell_ (S := fun i => i = g) w g 19 (.bool true) rfl).trans (Only.cell_ _ g 11 (.bool false) rfl)) (fun h => ⟨h.c, h.t, h.r⟩) HD.out⟩
      · have HD := hid (show ({ t with noWrap := false, wrap := false } : ScrS).data = modeD t.data 7 true from by
          unfold modeD noWrapD; rw [if_pos rfl, show t.data.wrap = false from hw]; rfl)
        rw [hw] at k11
        clear hg ho hok HSA hw
        go_enter Tryz.func161, Tryz.ntmps161
        go_wp2_with fail
        go_end0
        exact ⟨rfl, fld_end HN.out HO.out hB (RowN.s_wrap (z := false) (RowN.s_noWrap (z := false) HN.out)) ((Only.cell_ (S := fun i => i = g) w g 19 (.bool false) rfl).trans (Only.cell_ _ g 11 (.bool false) rfl)) (fun h => ⟨h.c, h.t, h.r⟩) HD.out⟩
    · cases on
      · have HD := hid (show ({ t with noWrap := true, wrap := false } : ScrS).data = modeD t.data 7 false from by
          unfold modeD noWrapD; rw [if_pos rfl, show t.data.wrap = true from hw]; rfl)
        rw [hw] at k11
        clear hg ho hok HSA hw
        go_enter Tryz.func161, Tryz.ntmps161
        go_wp2_with fail
        go_end0
        exact ⟨rfl, fld_end HN.out HO.out hB (RowN.s_wrap (z := false) (RowN.s_noWrap (z := true) HN.out)) ((Only.cell_ (S := fun i => i = g) w g 19 (.bool true) rfl).trans (Only.cell_ _ g 11 (.bool false) rfl)) (fun h => ⟨h.c, h.t, h.r⟩) HD.out⟩
      · have HD := hid (show ({ t with noWrap := false, wrap := true } : ScrS).data = modeD t.data 7 true from by
          unfold modeD noWrapD; rw [if_pos rfl, show t.data.wrap = true from hw]; rfl)
        rw [hw] at k11
        clear hg ho hok HSA hw
        go_enter Tryz.func161, Tryz.ntmps161
        go_wp2_with fail
        go_end0
        exact ⟨rfl, fld_end HN.out HO.out hB (RowN.s_wrap (z := true) (RowN.s_noWrap (z := false) HN.out)) ((Only.cell_ (S := fun i => i = g) w g 19 (.bool false) rfl).trans (Only.cell_ _ g 11 (.bool true) rfl)) (fun h => ⟨h.c, h.t, h.r⟩) HD.out⟩
  by_cases h25 : m = 25
  · subst h25
    cases on
    · have HD := hid (show ({ t with hide := true } : ScrS).data = modeD t.data 25 false from by
        unfold modeD hideD; rw [if_neg (by decide), if_pos rfl]; rfl)
      clear hg ho hok HSA
      go_enter Tryz.func161, Tryz.ntmps161
      go_wp2_with fail
      go_end0
      exact ⟨rfl, fld_end HN.out HO.out hB (RowN.s_hide (z := true) HN.out) (Only.cell_ (S := fun i => i = g) w g 20 (.bool true) rfl) (fun h => ⟨h.c, h.t, h.r⟩) HD.out⟩
    · have HD := hid (show ({ t with hide := false } : ScrS).data = modeD t.data 25 true from by
        unfold modeD hideD; rw [if_neg (by decide), if_pos rfl]; rfl)
      clear hg ho hok HSA
      go_enter Tryz.func161, Tryz.ntmps161
      go_wp2_with fail
      go_end0
      exact ⟨rfl, fld_end HN.out HO.out hB (RowN.s_hide (z := false) HN.out) (Only.cell_ (S := fun i => i = g) w g 20 (.bool false) rfl) (fun h => ⟨h.c, h.t, h.r⟩) HD.out⟩
  by_cases h49 : m = 1049
  · subst h49
    have HD := hid (show modeD t.data 1049 on = altD t.data on from by unfold modeD; rw [if_neg (by decide), if_neg (by decide), if_pos rfl])
    clear hg ho hok k11 k19 k20 hf h7 h25
    go_enter Tryz.func161, Tryz.ntmps161
    go_wp2_with fail
    refine HSA.out.mono ?_
    rintro e v ⟨rfl, hK⟩
    rw [← HD.out] at hK
    have K := hid hK
    clear hK HSA
    go_wp2_with fail
    go_end0
    exact ⟨rfl, K.out⟩
  have HD := hid (show t.data = modeD t.data m on from by unfold modeD; rw [if_neg h7, if_neg h25, if_neg h49])
  clear hg ho hok HSA k11 k19 k20 hf
  go_enter Tryz.func161, Tryz.ntmps161
  go_wp2_with fail
  go_end0
  exact ⟨rfl, _, HN.out, HO.out, HD.out, Below.refl B w⟩
theorem setModes_any (t : ScrS) (g B : Nat) (A : Option Addr) (n c : Nat) (zs : List Int) (on : Bool) (w : World) (hg : RowN w g t) (ho : OwnS w B t) (hok : okD t.data = true) (hB : B ≤ g) (ha : RdI w B A zs) (hl : zs.length = n) (hn : n ≤ 8) :
    Calls Tryz.prog 142 #[.pointer (some ⟨g, 0, none⟩), .slice A n c, .bool on] w (Mth B g (modesD t.data zs on) w) := by
  have HN := hid hg
  have HO := hid ho
  have HK := hid hok
  have HA := hid ha
  have HL := hid hl
  clear hg ho hok ha hl
  go_enter Tryz.func142, Tryz.ntmps142
  go_wp2_with fail
  go_loopw [10] (fun i wr => ∃ k : Nat, k ≤ n ∧ i = .int .i64 k ∧ ∃ t2, RowN wr g t2 ∧ OwnS wr B t2 ∧ okD t2.data = true ∧ t2.data = modesD t.data (zs.take k) on ∧ Below B w wr) (fun i _ => n - (intOf i).toNat)
  case atStart => exact ⟨0, Nat.zero_le _, rfl, t, HN.out, HO.out, HK.out, rfl, Below.refl _ _⟩
  case round =>
    obtain ⟨k, hk, rfl, t2, hR, hO, hok2, hd, hb⟩ := hrel
    by_cases hlt : k < n
    · have hlt' : k < zs.length := by rw [HL.out]; exact hlt
      obtain ⟨b0, o0, rfl, hb0, hc⟩ := (HA.out.below (Nat.le_refl _) hb).at_ hlt'
      have HS := hid (modesD_snoc t.data zs on k hlt')
      have HM := hid (setMode_any t2 g B zs[k] on wr hR hO hok2 hB)
      have HK2 := hid (ok_mode hok2 zs[k] on)
      generalize zs[k] = z at *
      have HD2 := hid hd
      have HBR := hid hb
      clear hR hO hok2 hd hb hlt'
      go_wp2_with fail
      refine HM.out.mono ?_
      rintro e v ⟨rfl, t3, hR3, hO3, hd3, hb3⟩
      have H3 := hid (show ∃ t2, RowN v g t2 ∧ OwnS v B t2 ∧ okD t2.data = true ∧ t2.data = modesD t.data (zs.take (k + 1)) on ∧ Below B w v from ⟨t3, hR3, hO3, by rw [hd3]; exact HK2.out, by rw [HS.out, hd3, HD2.out], HBR.out.trans hb3⟩)
      clear hR3 hO3 hd3 hb3 HM hc
      go_wp2_with fail
      go_roundw
      case rel => exact ⟨k + 1, by omega, by go_num, H3.out⟩
      case measure => simp [intOf]; omega
    · obtain rfl : n = k := by omega
      rw [show zs.take n = zs from List.take_of_length_le (by rw [HL.out]; exact Nat.le_refl _)] at hd
      have H3 := hid (show ∃ t2, RowN wr g t2 ∧ OwnS wr B t2 ∧ t2.data = modesD t.data zs on ∧ Below B w wr from ⟨t2, hR, hO, hd, hb⟩)
      clear hR hO hok2 hd hb
      go_wp2_with fail
      go_end0
      exact ⟨rfl, H3.out⟩
theorem seq17_any (t : ScrS) (g B : Nat) (A : Option Addr) (n c : Nat) (zs : List Int) (w : World) (h : SqIn t g B A n c zs w) (ha : RdI w B A zs) :
    Calls Tryz.prog 141 #[.pointer (some ⟨g, 0, none⟩), .slice A n c] w (Mth B g (modesD t.data zs true) w) := by
  have HL := hid (setModes_any t g B A n c zs true w h.r h.o h.k h.B ha h.l h.n)
  clear h ha
  go_enter Tryz.func141, Tryz.ntmps141
  go_wp2_with fail
  refine HL.out.mono ?_
  rintro e v ⟨rfl, hK⟩
  have K := hid hK
  clear hK HL
  go_wp2_with fail
  go_end0
  exact ⟨rfl, K.out⟩
theorem seq18_any (t : ScrS) (g B : Nat) (A : Option Addr) (n c : Nat) (zs : List Int) (w : World) (h : SqIn t g B A n c zs w) (ha : RdI w B A zs) :
    Calls Tryz.prog 143 #[.pointer (some ⟨g, 0, none⟩), .slice A n c] w (Mth B g (modesD t.data zs false) w) := by
  have HL := hid (setModes_any t g B A n c zs false w h.r h.o h.k h.B ha h.l h.n)
  clear h ha
  go_enter Tryz.func143, Tryz.ntmps143
  go_wp2_with fail
  refine HL.out.mono ?_
  rintro e v ⟨rfl, hK⟩
  have K := hid hK
  clear hK HL
  go_wp2_with fail
  go_end0
  exact ⟨rfl, K.out⟩
end Go.Proofs.YtgnpgkkjcloghaaGreat.Sc
