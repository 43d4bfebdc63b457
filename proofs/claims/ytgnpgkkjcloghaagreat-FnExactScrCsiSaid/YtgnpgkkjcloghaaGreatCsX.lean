/- What the model makes of a sequence without a mark. -/
import Derived.Test.YtgnpgkkjcloghaaGreatCsR
import Derived.Test.YtgnpgkkjcloghaaGreatCsS
import Derived.Test.YtgnpgkkjcloghaaGreatCsU
import Derived.Test.YtgnpgkkjcloghaaGreatCsV
import Derived.Test.YtgnpgkkjcloghaaGreatGrShiftV
set_option maxRecDepth 100000
set_option maxHeartbeats 3200000
set_option linter.unusedVariables false
namespace Go.Proofs.YtgnpgkkjcloghaaGreat.Sc
open Lib
open Go.RowKit Bytes Rows_ RowK Gr DOk Opq Attr
attribute [local go_sem ↓] Sc.exec_storeS Sc.exec_loadS
attribute [local go_sem] rowOf_drew blkOf_ptr isHead_ptr aggN_agg setRow_alloc rowZ_at rowZ_past scrA_size one_scr rowOf_alloc_at rowOf_alloc_past
attribute [local go_sem] sa_w sa_h sa_mw sa_mh sa_M sa_aw sa_ah sa_A sa_onAlt sa_x sa_y sa_wrap sa_fg sa_bg sa_b sa_u sa_t sa_top sa_bot sa_noWrap sa_hide sa_sx sa_sy sa_sfg sa_sbg sa_sb sa_su sa_st sa_tabs sa_lim sa_rows
attribute [local go_sem] scr_at0 scr_at1 scr_at2 scr_at3 scr_at4 scr_at5 scr_at6 scr_at7 scr_at8 scr_at9 scr_at10 scr_at11 scr_at12 scr_at13 scr_at14 scr_at15 scr_at16 scr_at17 scr_at18 scr_at19 scr_at20 scr_at21 scr_at22 scr_at23 scr_at24 scr_at25 scr_at26 scr_at27 scr_at28 scr_at29 scr_at30
def AnsL (B b : Nat) (d : ScrD) (w : World) (e : Ending) (w' : World) : Prop := ∃ s, e = .returned (.agg (scrA s)) ∧ OwnS w' B s ∧ s.data = d ∧ Below B w w' ∧ RowS w' b zeroS
theorem ansL_P {B b : Nat} {d : ScrD} {w w' : World} {e : Ending} (hB : B ≤ w.heap.size) (hz : RowS w b zeroS) (h : AnsP B d w e w') : AnsL B b d w e w' := by
  obtain ⟨s, h1, h2, h3, h4⟩ := h
  exact ⟨s, h1, h2, h3, h4.mono hB, hz.below h4 hz.lt⟩
theorem ansL_S {B b : Nat} {d : ScrD} {w w' : World} {e : Ending} (hB : B ≤ w.heap.size) (hz : RowS w b zeroS) (h : AnsS d w e w') : AnsL B b d w e w' := by
  obtain ⟨s, h1, h2, h3, h4⟩ := h
  exact ⟨s, h1, h2.more hB, h3, h4.mono hB, hz.below h4 hz.lt⟩
theorem ansL_K {B b : Nat} {d : ScrD} {w w' : World} {e : Ending} (hz : RowS w b zeroS) (h : AnsK B d w e w') : AnsL B b d w e w' := by
  obtain ⟨s, h1, h2, h3, h4, h5⟩ := h
  exact ⟨s, h1, h2, h3, h4, h5 _ _ hz⟩
def AnsQ (B : Nat) (d : ScrD) (w : World) (e : Ending) (w' : World) : Prop := ∃ s, e = .returned (.agg (scrA s)) ∧ OwnS w' B s ∧ s.data = d ∧ Below B w w'
theorem plain_pre (s : ScrS) (B : Nat) (A : Option Addr) (n c : Nat) (zs : List Int) (w : World) (hB : B ≤ w.heap.size) (ho : OwnS w B s) (hok : okD s.data = true) (hr : RdI w w.heap.size A zs) (hl : zs.length = n) (hz : argB zs = true) :
    ∃ (W H X Y T Bt L : Nat) (k1 k0 : Int) (W1 : World), Fit s.data W H X Y T Bt L ∧ (shC s).cs.length = W * H ∧ s.w = (W : Int) ∧ s.h = (H : Int) ∧ s.x = (X : Int) ∧ s.y = (Y : Int) ∧ s.top = (T : Int) ∧ s.bot = (Bt : Int) ∧ (1 ≤ k1 ∧ k1 ≤ 9999) ∧ k1 = argV zs 0 1 ∧ k0 = argV zs 0 0 ∧ One #[.int .i64 0, .int .i64 0, .int .i64 0, .int .i64 0, .slice none 0 0, .int .i64 0, .int .i64 0, .slice none 0 0, .bool false, .int .i64 0, .int .i64 0, .bool false, .int .i64 0, .int .i64 0, .bool false, .bool false, .bool false, .int .i64 0, .int .i64 0, .bool false, .bool false, .int .i64 0, .int .i64 0, .int .i64 0, .int .i64 0, .bool false, .bool false, .bool false, .slice none 0 0, .int .i64 0, .slice none 0 0] ∧ W1 = (w.alloc (.cells (scrA s) 38)).alloc (.cells #[.int .i64 0, .int .i64 0, .int .i64 0, .int .i64 0, .slice none 0 0, .int .i64 0, .int .i64 0, .slice none 0 0, .bool false, .int .i64 0, .int .i64 0, .bool false, .int .i64 0, .int .i64 0, .bool false, .bool false, .bool false, .int .i64 0, .int .i64 0, .bool false, .bool false, .int .i64 0, .int .i64 0, .int .i64 0, .int .i64 0, .bool false, .bool false, .bool false, .slice none 0 0, .int .i64 0, .slice none 0 0] 38) ∧ Hid (RowS W1 w.heap.size s) ∧ Hid (RowS W1 (w.heap.size + 1) zeroS) ∧ Hid (Below w.heap.size w W1) ∧ Hid (OwnS W1 B s) ∧ w.heap.size + 1 < W1.heap.size ∧ rowOf W1 w.heap.size = scrA s ∧ RowZ W1 (w.heap.size + 1) 31 ∧ B ≤ W1.heap.size ∧ Hid (Below B w W1) ∧ Hid (∀ V (hb : Below w.heap.size w V), Calls Tryz.prog 39 #[.slice A n c, .int .i64 0, .int .i64 1] V fun e w' => e = .returned (.int .i64 k1) ∧ V = w') ∧ Hid (∀ V (hb : Below w.heap.size w V), Calls Tryz.prog 39 #[.slice A n c, .int .i64 0, .int .i64 0] V fun e w' => e = .returned (.int .i64 k0) ∧ V = w') ∧ W1.cell? ⟨w.heap.size, 0, none⟩ = some (.int .i64 (W : Int)) ∧ W1.cell? ⟨w.heap.size, 1, none⟩ = some (.int .i64 (H : Int)) ∧ W1.cell? ⟨w.heap.size, 9, none⟩ = some (.int .i64 (X : Int)) ∧ W1.cell? ⟨w.heap.size, 10, none⟩ = some (.int .i64 (Y : Int)) ∧ W1.cell? ⟨w.heap.size, 17, none⟩ = some (.int .i64 (T : Int)) ∧ W1.cell? ⟨w.heap.size, 18, none⟩ = some (.int .i64 (Bt : Int)) := by
  have hn8 : n ≤ 8 := by have := (argB_t hz).1; omega
  obtain ⟨W, H, X, Y, T, Bt, L, fit⟩ := ok_fit hok
  obtain ⟨hf1, hf2, hf3⟩ := at_fit fit
  have hls := sh_lenS hok
  have hsl : (shC s).cs.length = W * H := by rw [sh_data]; exact sh_len fit
  have ew : s.w = (W : Int) := fit.w
  have eh : s.h = (H : Int) := fit.h
  have ex : s.x = (X : Int) := fit.x
  have ey : s.y = (Y : Int) := fit.y
  have et : s.top = (T : Int) := fit.top
  have eb : s.bot = (Bt : Int) := fit.bot
  have q1 := fit.w1; have q2 := fit.w2; have q3 := fit.h1; have q4 := fit.h2; have q5 := fit.x2; have q6 := fit.y2; have q7 := fit.wh
  have hk1 := argV_bd hz 0 (o := 1) (lo := 1) (hi := 9999) (by omega) (by omega) (by omega) (by omega)
  obtain ⟨k1, hk⟩ : ∃ k1, k1 = argV zs 0 1 := ⟨_, rfl⟩
  obtain ⟨k0, hkk⟩ : ∃ k0, k0 = argV zs 0 0 := ⟨_, rfl⟩
  rw [← hk] at hk1
  have hone0 : One #[.int .i64 0, .int .i64 0, .int .i64 0, .int .i64 0, .slice none 0 0, .int .i64 0, .int .i64 0, .slice none 0 0, .bool false, .int .i64 0, .int .i64 0, .bool false, .int .i64 0, .int .i64 0, .bool false, .bool false, .bool false, .int .i64 0, .int .i64 0, .bool false, .bool false, .int .i64 0, .int .i64 0, .int .i64 0, .int .i64 0, .bool false, .bool false, .bool false, .slice none 0 0, .int .i64 0, .slice none 0 0] := one_scr zeroS
  obtain ⟨W1, hW⟩ : ∃ W, W = (w.alloc (.cells (scrA s) 38)).alloc (.cells #[.int .i64 0, .int .i64 0, .int .i64 0, .int .i64 0, .slice none 0 0, .int .i64 0, .int .i64 0, .slice none 0 0, .bool false, .int .i64 0, .int .i64 0, .bool false, .int .i64 0, .int .i64 0, .bool false, .bool false, .bool false, .int .i64 0, .int .i64 0, .bool false, .bool false, .int .i64 0, .int .i64 0, .int .i64 0, .int .i64 0, .bool false, .bool false, .bool false, .slice none 0 0, .int .i64 0, .slice none 0 0] 38) := ⟨_, rfl⟩
  have RB1 := hid (show RowS W1 w.heap.size s from by rw [hW]; exact (RowS.new w s).alloc _)
  have RZ1 := hid (show RowS W1 (w.heap.size + 1) zeroS from by
    rw [hW]
    have h := RowS.new (w.alloc (.cells (scrA s) 38)) zeroS
    rw [World.size_alloc] at h; exact h)
  have hal0 : Below w.heap.size w W1 := by rw [hW]; exact ((Below.refl w.heap.size w).alloc (Nat.le_refl _) _).alloc (by simp) _
  have H1 := hid hal0
  have O1 := hid (ho.below (Nat.le_refl _) hal0)
  have hs1 : w.heap.size + 1 < W1.heap.size := RZ1.out.lt
  have row1 : rowOf W1 w.heap.size = scrA s := RB1.out.of
  have rz1 : RowZ W1 (w.heap.size + 1) 31 := RowZ.of RZ1.out.row 31 rfl
  clear hal0
  have hB1 : B ≤ W1.heap.size := by omega
  have BL1 := hid (H1.out.mono hB)
  have HA1 := hid (fun V (hb : Below w.heap.size w V) => show Calls Tryz.prog 39 #[.slice A n c, .int .i64 0, .int .i64 1] V fun e w' => e = .returned (.int .i64 k1) ∧ V = w' from by rw [hk]; exact l10Arg_any A n c zs 0 1 V ((hr.below (Nat.le_refl _) hb).more hb.size) hl hn8 (by omega))
  have HA0 := hid (fun V (hb : Below w.heap.size w V) => show Calls Tryz.prog 39 #[.slice A n c, .int .i64 0, .int .i64 0] V fun e w' => e = .returned (.int .i64 k0) ∧ V = w' from by rw [hkk]; exact l10Arg_any A n c zs 0 0 V ((hr.below (Nat.le_refl _) hb).more hb.size) hl hn8 (by omega))
  have c0 : W1.cell? ⟨w.heap.size, 0, none⟩ = some (.int .i64 (W : Int)) := by rw [← ew]; exact RB1.out.cell 0
  have c1 : W1.cell? ⟨w.heap.size, 1, none⟩ = some (.int .i64 (H : Int)) := by rw [← eh]; exact RB1.out.cell 1
  have c9 : W1.cell? ⟨w.heap.size, 9, none⟩ = some (.int .i64 (X : Int)) := by rw [← ex]; exact RB1.out.cell 9
  have c10 : W1.cell? ⟨w.heap.size, 10, none⟩ = some (.int .i64 (Y : Int)) := by rw [← ey]; exact RB1.out.cell 10
  have c17 : W1.cell? ⟨w.heap.size, 17, none⟩ = some (.int .i64 (T : Int)) := by rw [← et]; exact RB1.out.cell 17
  have c18 : W1.cell? ⟨w.heap.size, 18, none⟩ = some (.int .i64 (Bt : Int)) := by rw [← eb]; exact RB1.out.cell 18
  exact ⟨W, H, X, Y, T, Bt, L, k1, k0, W1, fit, hsl, ew, eh, ex, ey, et, eb, hk1, hk, hkk, hone0, hW, RB1, RZ1, H1, O1, hs1, row1, rz1, hB1, BL1, HA1, HA0, c0, c1, c9, c10, c17, c18⟩
theorem plain_65 (s : ScrS) (B : Nat) (A : Option Addr) (n c : Nat) (zs : List Int) (w : World) (hB : B ≤ w.heap.size) (ho : OwnS w B s) (hok : okD s.data = true) (hr : RdI w w.heap.size A zs) (hl : zs.length = n) (hz : argB zs = true) :
    Calls Tryz.prog 19 #[.agg (scrA s), .slice A n c, .int .i64 65] w (AnsQ B (csiP s.data zs 65) w) := by
  have hn8 : n ≤ 8 := by have := (argB_t hz).1; omega
  obtain ⟨W, H, X, Y, T, Bt, L, k1, k0, W1, fit, hsl, ew, eh, ex, ey, et, eb, hk1, hk, hkk, hone0, hW, RB1, RZ1, H1, O1, hs1, row1, rz1, hB1, BL1, HA1, HA0, c0, c1, c9, c10, c17, c18⟩ := plain_pre s B A n c zs w hB ho hok hr hl hz
  obtain ⟨hf1, hf2, hf3⟩ := at_fit fit
  have hls := sh_lenS hok
  have q1 := fit.w1; have q2 := fit.w2; have q3 := fit.h1; have q4 := fit.h2; have q5 := fit.x2; have q6 := fit.y2; have q7 := fit.wh
  have e0_ : IntKind.i64.wrap ((Y : Int) - k1) = (Y : Int) - k1 := by exact IntWalk.i64_in _ (by omega)
  have HC := hid (show Calls Tryz.prog 40 #[.agg (scrA s), .int .i64 ((X : Int)), .int .i64 ((Y : Int) - k1)] W1 (AnsL B (w.heap.size + 1) (csiP s.data zs 65) W1) from by
    have h := spec_ScrGo_any s W1 B ((X : Int)) ((Y : Int) - k1) O1.out (szS_ok hok)
    rw [okF_yes (f := fun d => goD d ((X : Int)) ((Y : Int) - k1)) hok] at h
    refine (h.mono fun e v h2 => ansL_S hB1 RZ1.out h2).mono fun e v h2 => ?_
    have hd : goD s.data ((X : Int)) ((Y : Int) - k1) = csiP s.data zs 65 := by
      show goD s.data ((X : Int)) ((Y : Int) - k1) = goD s.data (s.data.x) (s.data.y - argV zs 0 1)
      rw [← hk]; (try rw [show s.data.x = (X : Int) from ex]); (try rw [show s.data.y = (Y : Int) from ey])
    rw [← hd]; exact h2)
  clear ho hok fit ew eh ex ey et eb hr hl hz hk hkk hf1 hf2 hf3 hsl
  go_enter Tryz.func19, Tryz.ntmps19
  go_upto_region 1 with fail
  rw [← hW]
  clear hW
  go_wp2_with fail
  refine (HA1.out _ H1.out).mono ?_
  rintro e v ⟨rfl, rfl⟩
  go_wp2_with fail
  refine (HA0.out _ H1.out).mono ?_
  rintro e v ⟨rfl, rfl⟩
  go_wp2_with fail
  refine HC.out.mono ?_
  rintro e v ⟨t, rfl, ht, hd, hb, hz3⟩
  have RZ3 := hid hz3
  have O3 := hid ht
  have D3 := hid hd
  have B3 := hid (BL1.out.trans hb)
  have rz3 : RowZ v (w.heap.size + 1) 31 := RowZ.of RZ3.out.row 31 rfl
  clear ht hd hb hz3 HC row1 rz1 c0 c1 c9 c10 c17 c18
  go_wp2_with fail
  refine bodyPost_ret (v := .agg (scrA (t))) (res55 Tryz.results19 _ _ (w.heap.size + 1) _ (by simp) ((RZ3.out).row.setRow) rfl) rfl ⟨t, rfl, ?_, ?_, ?_⟩
  · exact OwnS.keepRow (O3.out) (w.heap.size + 1) _ (.inr (RowS.apart (RZ3.out) (O3.out)))
  · exact D3.out
  · exact below_setRow (B3.out) (by omega) _
theorem plain_66 (s : ScrS) (B : Nat) (A : Option Addr) (n c : Nat) (zs : List Int) (w : World) (hB : B ≤ w.heap.size) (ho : OwnS w B s) (hok : okD s.data = true) (hr : RdI w w.heap.size A zs) (hl : zs.length = n) (hz : argB zs = true) :
    Calls Tryz.prog 19 #[.agg (scrA s), .slice A n c, .int .i64 66] w (AnsQ B (csiP s.data zs 66) w) := by
  have hn8 : n ≤ 8 := by have := (argB_t hz).1; omega
  obtain ⟨W, H, X, Y, T, Bt, L, k1, k0, W1, fit, hsl, ew, eh, ex, ey, et, eb, hk1, hk, hkk, hone0, hW, RB1, RZ1, H1, O1, hs1, row1, rz1, hB1, BL1, HA1, HA0, c0, c1, c9, c10, c17, c18⟩ := plain_pre s B A n c zs w hB ho hok hr hl hz
  obtain ⟨hf1, hf2, hf3⟩ := at_fit fit
  have hls := sh_lenS hok
  have q1 := fit.w1; have q2 := fit.w2; have q3 := fit.h1; have q4 := fit.h2; have q5 := fit.x2; have q6 := fit.y2; have q7 := fit.wh
  have e0_ : IntKind.i64.wrap ((Y : Int) + k1) = (Y : Int) + k1 := by exact IntWalk.i64_in _ (by omega)
  have HC := hid (show Calls Tryz.prog 40 #[.agg (scrA s), .int .i64 ((X : Int)), .int .i64 ((Y : Int) + k1)] W1 (AnsL B (w.heap.size + 1) (csiP s.data zs 66) W1) from by
    have h := spec_ScrGo_any s W1 B ((X : Int)) ((Y : Int) + k1) O1.out (szS_ok hok)
    rw [okF_yes (f := fun d => goD d ((X : Int)) ((Y : Int) + k1)) hok] at h
    refine (h.mono fun e v h2 => ansL_S hB1 RZ1.out h2).mono fun e v h2 => ?_
    have hd : goD s.data ((X : Int)) ((Y : Int) + k1) = csiP s.data zs 66 := by
      show goD s.data ((X : Int)) ((Y : Int) + k1) = goD s.data (s.data.x) (s.data.y + argV zs 0 1)
      rw [← hk]; (try rw [show s.data.x = (X : Int) from ex]); (try rw [show s.data.y = (Y : Int) from ey])
    rw [← hd]; exact h2)
  clear ho hok fit ew eh ex ey et eb hr hl hz hk hkk hf1 hf2 hf3 hsl
  go_enter Tryz.func19, Tryz.ntmps19
  go_upto_region 1 with fail
  rw [← hW]
  clear hW
  go_wp2_with fail
  refine (HA1.out _ H1.out).mono ?_
  rintro e v ⟨rfl, rfl⟩
  go_wp2_with fail
  refine (HA0.out _ H1.out).mono ?_
  rintro e v ⟨rfl, rfl⟩
  go_wp2_with fail
  refine HC.out.mono ?_
  rintro e v ⟨t, rfl, ht, hd, hb, hz3⟩
  have RZ3 := hid hz3
  have O3 := hid ht
  have D3 := hid hd
  have B3 := hid (BL1.out.trans hb)
  have rz3 : RowZ v (w.heap.size + 1) 31 := RowZ.of RZ3.out.row 31 rfl
  clear ht hd hb hz3 HC row1 rz1 c0 c1 c9 c10 c17 c18
  go_wp2_with fail
  refine bodyPost_ret (v := .agg (scrA (t))) (res55 Tryz.results19 _ _ (w.heap.size + 1) _ (by simp) ((RZ3.out).row.setRow) rfl) rfl ⟨t, rfl, ?_, ?_, ?_⟩
  · exact OwnS.keepRow (O3.out) (w.heap.size + 1) _ (.inr (RowS.apart (RZ3.out) (O3.out)))
  · exact D3.out
  · exact below_setRow (B3.out) (by omega) _
theorem plain_67 (s : ScrS) (B : Nat) (A : Option Addr) (n c : Nat) (zs : List Int) (w : World) (hB : B ≤ w.heap.size) (ho : OwnS w B s) (hok : okD s.data = true) (hr : RdI w w.heap.size A zs) (hl : zs.length = n) (hz : argB zs = true) :
    Calls Tryz.prog 19 #[.agg (scrA s), .slice A n c, .int .i64 67] w (AnsQ B (csiP s.data zs 67) w) := by
  have hn8 : n ≤ 8 := by have := (argB_t hz).1; omega
  obtain ⟨W, H, X, Y, T, Bt, L, k1, k0, W1, fit, hsl, ew, eh, ex, ey, et, eb, hk1, hk, hkk, hone0, hW, RB1, RZ1, H1, O1, hs1, row1, rz1, hB1, BL1, HA1, HA0, c0, c1, c9, c10, c17, c18⟩ := plain_pre s B A n c zs w hB ho hok hr hl hz
  obtain ⟨hf1, hf2, hf3⟩ := at_fit fit
  have hls := sh_lenS hok
  have q1 := fit.w1; have q2 := fit.w2; have q3 := fit.h1; have q4 := fit.h2; have q5 := fit.x2; have q6 := fit.y2; have q7 := fit.wh
  have e0_ : IntKind.i64.wrap ((X : Int) + k1) = (X : Int) + k1 := by exact IntWalk.i64_in _ (by omega)
  have HC := hid (show Calls Tryz.prog 40 #[.agg (scrA s), .int .i64 ((X : Int) + k1), .int .i64 ((Y : Int))] W1 (AnsL B (w.heap.size + 1) (csiP s.data zs 67) W1) from by
    have h := spec_ScrGo_any s W1 B ((X : Int) + k1) ((Y : Int)) O1.out (szS_ok hok)
    rw [okF_yes (f := fun d => goD d ((X : Int) + k1) ((Y : Int))) hok] at h
    refine (h.mono fun e v h2 => ansL_S hB1 RZ1.out h2).mono fun e v h2 => ?_
    have hd : goD s.data ((X : Int) + k1) ((Y : Int)) = csiP s.data zs 67 := by
      show goD s.data ((X : Int) + k1) ((Y : Int)) = goD s.data (s.data.x + argV zs 0 1) (s.data.y)
      rw [← hk]; (try rw [show s.data.x = (X : Int) from ex]); (try rw [show s.data.y = (Y : Int) from ey])
    rw [← hd]; exact h2)
  clear ho hok fit ew eh ex ey et eb hr hl hz hk hkk hf1 hf2 hf3 hsl
  go_enter Tryz.func19, Tryz.ntmps19
  go_upto_region 1 with fail
  rw [← hW]
  clear hW
  go_wp2_with fail
  refine (HA1.out _ H1.out).mono ?_
  rintro e v ⟨rfl, rfl⟩
  go_wp2_with fail
  refine (HA0.out _ H1.out).mono ?_
  rintro e v ⟨rfl, rfl⟩
  go_wp2_with fail
  refine HC.out.mono ?_
  rintro e v ⟨t, rfl, ht, hd, hb, hz3⟩
  have RZ3 := hid hz3
  have O3 := hid ht
  have D3 := hid hd
  have B3 := hid (BL1.out.trans hb)
  have rz3 : RowZ v (w.heap.size + 1) 31 := RowZ.of RZ3.out.row 31 rfl
  clear ht hd hb hz3 HC row1 rz1 c0 c1 c9 c10 c17 c18
  go_wp2_with fail
  refine bodyPost_ret (v := .agg (scrA (t))) (res55 Tryz.results19 _ _ (w.heap.size + 1) _ (by simp) ((RZ3.out).row.setRow) rfl) rfl ⟨t, rfl, ?_, ?_, ?_⟩
  · exact OwnS.keepRow (O3.out) (w.heap.size + 1) _ (.inr (RowS.apart (RZ3.out) (O3.out)))
  · exact D3.out
  · exact below_setRow (B3.out) (by omega) _
theorem plain_68 (s : ScrS) (B : Nat) (A : Option Addr) (n c : Nat) (zs : List Int) (w : World) (hB : B ≤ w.heap.size) (ho : OwnS w B s) (hok : okD s.data = true) (hr : RdI w w.heap.size A zs) (hl : zs.length = n) (hz : argB zs = true) :
    Calls Tryz.prog 19 #[.agg (scrA s), .slice A n c, .int .i64 68] w (AnsQ B (csiP s.data zs 68) w) := by
  have hn8 : n ≤ 8 := by have := (argB_t hz).1; omega
  obtain ⟨W, H, X, Y, T, Bt, L, k1, k0, W1, fit, hsl, ew, eh, ex, ey, et, eb, hk1, hk, hkk, hone0, hW, RB1, RZ1, H1, O1, hs1, row1, rz1, hB1, BL1, HA1, HA0, c0, c1, c9, c10, c17, c18⟩ := plain_pre s B A n c zs w hB ho hok hr hl hz
  obtain ⟨hf1, hf2, hf3⟩ := at_fit fit
  have hls := sh_lenS hok
  have q1 := fit.w1; have q2 := fit.w2; have q3 := fit.h1; have q4 := fit.h2; have q5 := fit.x2; have q6 := fit.y2; have q7 := fit.wh
  have e0_ : IntKind.i64.wrap ((X : Int) - k1) = (X : Int) - k1 := by exact IntWalk.i64_in _ (by omega)
  have HC := hid (show Calls Tryz.prog 40 #[.agg (scrA s), .int .i64 ((X : Int) - k1), .int .i64 ((Y : Int))] W1 (AnsL B (w.heap.size + 1) (csiP s.data zs 68) W1) from by
    have h := spec_ScrGo_any s W1 B ((X : Int) - k1) ((Y : Int)) O1.out (szS_ok hok)
    rw [okF_yes (f := fun d => goD d ((X : Int) - k1) ((Y : Int))) hok] at h
    refine (h.mono fun e v h2 => ansL_S hB1 RZ1.out h2).mono fun e v h2 => ?_
    have hd : goD s.data ((X : Int) - k1) ((Y : Int)) = csiP s.data zs 68 := by
      show goD s.data ((X : Int) - k1) ((Y : Int)) = goD s.data (s.data.x - argV zs 0 1) (s.data.y)
      rw [← hk]; (try rw [show s.data.x = (X : Int) from ex]); (try rw [show s.data.y = (Y : Int) from ey])
    rw [← hd]; exact h2)
  clear ho hok fit ew eh ex ey et eb hr hl hz hk hkk hf1 hf2 hf3 hsl
  go_enter Tryz.func19, Tryz.ntmps19
  go_upto_region 1 with fail
  rw [← hW]
  clear hW
  go_wp2_with fail
  refine (HA1.out _ H1.out).mono ?_
  rintro e v ⟨rfl, rfl⟩
  go_wp2_with fail
  refine (HA0.out _ H1.out).mono ?_
  rintro e v ⟨rfl, rfl⟩
  go_wp2_with fail
  refine HC.out.mono ?_
  rintro e v ⟨t, rfl, ht, hd, hb, hz3⟩
  have RZ3 := hid hz3
  have O3 := hid ht
  have D3 := hid hd
  have B3 := hid (BL1.out.trans hb)
  have rz3 : RowZ v (w.heap.size + 1) 31 := RowZ.of RZ3.out.row 31 rfl
  clear ht hd hb hz3 HC row1 rz1 c0 c1 c9 c10 c17 c18
  go_wp2_with fail
  refine bodyPost_ret (v := .agg (scrA (t))) (res55 Tryz.results19 _ _ (w.heap.size + 1) _ (by simp) ((RZ3.out).row.setRow) rfl) rfl ⟨t, rfl, ?_, ?_, ?_⟩
  · exact OwnS.keepRow (O3.out) (w.heap.size + 1) _ (.inr (RowS.apart (RZ3.out) (O3.out)))
  · exact D3.out
  · exact below_setRow (B3.out) (by omega) _
theorem plain_71 (s : ScrS) (B : Nat) (A : Option Addr) (n c : Nat) (zs : List Int) (w : World) (hB : B ≤ w.heap.size) (ho : OwnS w B s) (hok : okD s.data = true) (hr : RdI w w.heap.size A zs) (hl : zs.length = n) (hz : argB zs = true) :
    Calls Tryz.prog 19 #[.agg (scrA s), .slice A n c, .int .i64 71] w (AnsQ B (csiP s.data zs 71) w) := by
  have hn8 : n ≤ 8 := by have := (argB_t hz).1; omega
  obtain ⟨W, H, X, Y, T, Bt, L, k1, k0, W1, fit, hsl, ew, eh, ex, ey, et, eb, hk1, hk, hkk, hone0, hW, RB1, RZ1, H1, O1, hs1, row1, rz1, hB1, BL1, HA1, HA0, c0, c1, c9, c10, c17, c18⟩ := plain_pre s B A n c zs w hB ho hok hr hl hz
  obtain ⟨hf1, hf2, hf3⟩ := at_fit fit
  have hls := sh_lenS hok
  have q1 := fit.w1; have q2 := fit.w2; have q3 := fit.h1; have q4 := fit.h2; have q5 := fit.x2; have q6 := fit.y2; have q7 := fit.wh
  have e0_ : IntKind.i64.wrap (k1 - 1) = k1 - 1 := by exact IntWalk.i64_in _ (by omega)
  have HC := hid (show Calls Tryz.prog 40 #[.agg (scrA s), .int .i64 (k1 - 1), .int .i64 ((Y : Int))] W1 (AnsL B (w.heap.size + 1) (csiP s.data zs 71) W1) from by
    have h := spec_ScrGo_any s W1 B (k1 - 1) ((Y : Int)) O1.out (szS_ok hok)
    rw [okF_yes (f := fun d => goD d (k1 - 1) ((Y : Int))) hok] at h
    refine (h.mono fun e v h2 => ansL_S hB1 RZ1.out h2).mono fun e v h2 => ?_
    have hd : goD s.data (k1 - 1) ((Y : Int)) = csiP s.data zs 71 := by
      show goD s.data (k1 - 1) ((Y : Int)) = goD s.data (argV zs 0 1 - 1) (s.data.y)
      rw [← hk]; (try rw [show s.data.x = (X : Int) from ex]); (try rw [show s.data.y = (Y : Int) from ey])
    rw [← hd]; exact h2)
  clear ho hok fit ew eh ex ey et eb hr hl hz hk hkk hf1 hf2 hf3 hsl
  go_enter Tryz.func19, Tryz.ntmps19
  go_upto_region 1 with fail
  rw [← hW]
  clear hW
  go_wp2_with fail
  refine (HA1.out _ H1.out).mono ?_
  rintro e v ⟨rfl, rfl⟩
  go_wp2_with fail
  refine (HA0.out _ H1.out).mono ?_
  rintro e v ⟨rfl, rfl⟩
  go_wp2_with fail
  refine HC.out.mono ?_
  rintro e v ⟨t, rfl, ht, hd, hb, hz3⟩
  have RZ3 := hid hz3
  have O3 := hid ht
  have D3 := hid hd
  have B3 := hid (BL1.out.trans hb)
  have rz3 : RowZ v (w.heap.size + 1) 31 := RowZ.of RZ3.out.row 31 rfl
  clear ht hd hb hz3 HC row1 rz1 c0 c1 c9 c10 c17 c18
  go_wp2_with fail
  refine bodyPost_ret (v := .agg (scrA (t))) (res55 Tryz.results19 _ _ (w.heap.size + 1) _ (by simp) ((RZ3.out).row.setRow) rfl) rfl ⟨t, rfl, ?_, ?_, ?_⟩
  · exact OwnS.keepRow (O3.out) (w.heap.size + 1) _ (.inr (RowS.apart (RZ3.out) (O3.out)))
  · exact D3.out
  · exact below_setRow (B3.out) (by omega) _
theorem plain_100 (s : ScrS) (B : Nat) (A : Option Addr) (n c : Nat) (zs : List Int) (w : World) (hB : B ≤ w.heap.size) (ho : OwnS w B s) (hok : okD s.data = true) (hr : RdI w w.heap.size A zs) (hl : zs.length = n) (hz : argB zs = true) :
    Calls Tryz.prog 19 #[.agg (scrA s), .slice A n c, .int .i64 100] w (AnsQ B (csiP s.data zs 100) w) := by
  have hn8 : n ≤ 8 := by have := (argB_t hz).1; omega
  obtain ⟨W, H, X, Y, T, Bt, L, k1, k0, W1, fit, hsl, ew, eh, ex, ey, et, eb, hk1, hk, hkk, hone0, hW, RB1, RZ1, H1, O1, hs1, row1, rz1, hB1, BL1, HA1, HA0, c0, c1, c9, c10, c17, c18⟩ := plain_pre s B A n c zs w hB ho hok hr hl hz
  obtain ⟨hf1, hf2, hf3⟩ := at_fit fit
  have hls := sh_lenS hok
  have q1 := fit.w1; have q2 := fit.w2; have q3 := fit.h1; have q4 := fit.h2; have q5 := fit.x2; have q6 := fit.y2; have q7 := fit.wh
  have e0_ : IntKind.i64.wrap (k1 - 1) = k1 - 1 := by exact IntWalk.i64_in _ (by omega)
  have HC := hid (show Calls Tryz.prog 40 #[.agg (scrA s), .int .i64 ((X : Int)), .int .i64 (k1 - 1)] W1 (AnsL B (w.heap.size + 1) (csiP s.data zs 100) W1) from by
    have h := spec_ScrGo_any s W1 B ((X : Int)) (k1 - 1) O1.out (szS_ok hok)
    rw [okF_yes (f := fun d => goD d ((X : Int)) (k1 - 1)) hok] at h
    refine (h.mono fun e v h2 => ansL_S hB1 RZ1.out h2).mono fun e v h2 => ?_
    have hd : goD s.data ((X : Int)) (k1 - 1) = csiP s.data zs 100 := by
      show goD s.data ((X : Int)) (k1 - 1) = goD s.data (s.data.x) (argV zs 0 1 - 1)
      rw [← hk]; (try rw [show s.data.x = (X : Int) from ex]); (try rw [show s.data.y = (Y : Int) from ey])
    rw [← hd]; exact h2)
  clear ho hok fit ew eh ex ey et eb hr hl hz hk hkk hf1 hf2 hf3 hsl
  go_enter Tryz.func19, Tryz.ntmps19
  go_upto_region 1 with fail
  rw [← hW]
  clear hW
  go_wp2_with fail
  refine (HA1.out _ H1.out).mono ?_
  rintro e v ⟨rfl, rfl⟩
  go_wp2_with fail
  refine (HA0.out _ H1.out).mono ?_
  rintro e v ⟨rfl, rfl⟩
  go_wp2_with fail
  refine HC.out.mono ?_
  rintro e v ⟨t, rfl, ht, hd, hb, hz3⟩
  have RZ3 := hid hz3
  have O3 := hid ht
  have D3 := hid hd
  have B3 := hid (BL1.out.trans hb)
  have rz3 : RowZ v (w.heap.size + 1) 31 := RowZ.of RZ3.out.row 31 rfl
  clear ht hd hb hz3 HC row1 rz1 c0 c1 c9 c10 c17 c18
  go_wp2_with fail
  refine bodyPost_ret (v := .agg (scrA (t))) (res55 Tryz.results19 _ _ (w.heap.size + 1) _ (by simp) ((RZ3.out).row.setRow) rfl) rfl ⟨t, rfl, ?_, ?_, ?_⟩
  · exact OwnS.keepRow (O3.out) (w.heap.size + 1) _ (.inr (RowS.apart (RZ3.out) (O3.out)))
  · exact D3.out
  · exact below_setRow (B3.out) (by omega) _
theorem plain_72 (s : ScrS) (B : Nat) (A : Option Addr) (n c : Nat) (zs : List Int) (w : World) (hB : B ≤ w.heap.size) (ho : OwnS w B s) (hok : okD s.data = true) (hr : RdI w w.heap.size A zs) (hl : zs.length = n) (hz : argB zs = true) :
    Calls Tryz.prog 19 #[.agg (scrA s), .slice A n c, .int .i64 72] w (AnsQ B (csiP s.data zs 72) w) := by
  have hn8 : n ≤ 8 := by have := (argB_t hz).1; omega
  obtain ⟨W, H, X, Y, T, Bt, L, k1, k0, W1, fit, hsl, ew, eh, ex, ey, et, eb, hk1, hk, hkk, hone0, hW, RB1, RZ1, H1, O1, hs1, row1, rz1, hB1, BL1, HA1, HA0, c0, c1, c9, c10, c17, c18⟩ := plain_pre s B A n c zs w hB ho hok hr hl hz
  obtain ⟨hf1, hf2, hf3⟩ := at_fit fit
  have hls := sh_lenS hok
  have q1 := fit.w1; have q2 := fit.w2; have q3 := fit.h1; have q4 := fit.h2; have q5 := fit.x2; have q6 := fit.y2; have q7 := fit.wh
  have hk2 := argV_bd hz 1 (o := 1) (lo := 1) (hi := 9999) (by omega) (by omega) (by omega) (by omega)
  obtain ⟨k2, hk2e⟩ : ∃ k2, k2 = argV zs 1 1 := ⟨_, rfl⟩
  rw [← hk2e] at hk2
  have e0_ : IntKind.i64.wrap (k1 - 1) = k1 - 1 := IntWalk.i64_in _ (by omega)
  have e1_ : IntKind.i64.wrap (k2 - 1) = k2 - 1 := IntWalk.i64_in _ (by omega)
  have HA2 := hid (fun V (hb : Below w.heap.size w V) => show Calls Tryz.prog 39 #[.slice A n c, .int .i64 1, .int .i64 1] V fun e w' => e = .returned (.int .i64 k2) ∧ V = w' from by rw [hk2e]; exact l10Arg_any A n c zs 1 1 V ((hr.below (Nat.le_refl _) hb).more hb.size) hl hn8 (by omega))
  have HC := hid (fun V (hb : Below W1.heap.size W1 V) => show Calls Tryz.prog 40 #[.agg (scrA s), .int .i64 (k2 - 1), .int .i64 (k1 - 1)] V (fun e v => AnsL B (w.heap.size + 1) (csiP s.data zs 72) V e v ∧ RowS v w.heap.size s) from by
    have h := spec_ScrGo_any s V B (k2 - 1) (k1 - 1) (O1.out.below (Nat.le_refl _) hb) (szS_ok hok)
    rw [okF_yes (f := fun d => goD d (k2 - 1) (k1 - 1)) hok] at h
    refine (h.mono fun e v h2 => show AnsL B (w.heap.size + 1) (goD s.data (k2 - 1) (k1 - 1)) V e v ∧ RowS v w.heap.size s from ⟨ansL_S (Nat.le_trans hB1 hb.size) (RZ1.out.below hb RZ1.out.lt) h2, by
      obtain ⟨_, _, _, _, hb9⟩ := h2
      exact (RB1.out.below hb RB1.out.lt).below hb9 (RB1.out.below hb RB1.out.lt).lt⟩).mono fun e v h2 => ?_
    have hd : goD s.data (k2 - 1) (k1 - 1) = csiP s.data zs 72 := by
      show goD s.data (k2 - 1) (k1 - 1) = goD s.data (argV zs 1 1 - 1) (argV zs 0 1 - 1)
      rw [← hk, ← hk2e]
    rw [← hd]; exact h2)
  clear ho hok fit ew eh ex ey et eb hr hl hz hk hkk hf1 hf2 hf3 hsl hk2e
  go_enter Tryz.func19, Tryz.ntmps19
  go_upto_region 1 with fail
  rw [← hW]
  clear hW
  go_wp2_with fail
  refine (HA1.out _ H1.out).mono ?_
  rintro e v ⟨rfl, rfl⟩
  go_wp2_with fail
  refine (HA0.out _ H1.out).mono ?_
  rintro e v ⟨rfl, rfl⟩
  go_upto_region 18 with fail
  go_region_held3 (fun w' => rowOf w' w.heap.size = scrA s) (first | assumption | (exact RB1.out.of) | (exact RB3.out.of) | (exact (RB3.out.row_other (by omega)).of)) (first
    | (go_at_call 39; (with_reducible refine (HA2.out _ ?_).mono ?_); exact ⟨H1.out.os, H1.out.tape, H1.out.output, H1.out.size, H1.out.block⟩; rintro e v0 ⟨rfl, rfl⟩)
    | (go_at_call 40; (with_reducible refine (HC.out _ ?_).mono ?_); exact ⟨rfl, rfl, rfl, Nat.le_refl _, fun _ _ => rfl⟩; rintro e v ⟨⟨t, rfl, ht, hd, hb', hz3⟩, hr9⟩; have RB3 := hid hr9; have hb : Below B W1 v := ⟨hb'.os, hb'.tape, hb'.output, hb'.size, hb'.block⟩; have RZ3 := hid hz3; have O3 := hid ht; have D3 := hid hd; have B3 := hid (BL1.out.trans hb); have rz3 : RowZ v (w.heap.size + 1) 31 := RowZ.of RZ3.out.row 31 rfl; clear ht hd hb hb' hz3 hr9))
  all_goals
    go_wp2_with fail
    refine bodyPost_ret (v := .agg (scrA (t))) (res55 Tryz.results19 _ _ (w.heap.size + 1) _ (by simp) ((RZ3.out).row.setRow) rfl) rfl ⟨t, rfl, ?_, ?_, ?_⟩
    · exact OwnS.keepRow (O3.out) (w.heap.size + 1) _ (.inr (RowS.apart (RZ3.out) (O3.out)))
    · exact D3.out
    · exact below_setRow (B3.out) (by omega) _
theorem plain_102 (s : ScrS) (B : Nat) (A : Option Addr) (n c : Nat) (zs : List Int) (w : World) (hB : B ≤ w.heap.size) (ho : OwnS w B s) (hok : okD s.data = true) (hr : RdI w w.heap.size A zs) (hl : zs.length = n) (hz : argB zs = true) :
    Calls Tryz.prog 19 #[.agg (scrA s), .slice A n c, .int .i64 102] w (AnsQ B (csiP s.data zs 102) w) := by
  have hn8 : n ≤ 8 := by have := (argB_t hz).1; omega
  obtain ⟨W, H, X, Y, T, Bt, L, k1, k0, W1, fit, hsl, ew, eh, ex, ey, et, eb, hk1, hk, hkk, hone0, hW, RB1, RZ1, H1, O1, hs1, row1, rz1, hB1, BL1, HA1, HA0, c0, c1, c9, c10, c17, c18⟩ := plain_pre s B A n c zs w hB ho hok hr hl hz
  obtain ⟨hf1, hf2, hf3⟩ := at_fit fit
  have hls := sh_lenS hok
  have q1 := fit.w1; have q2 := fit.w2; have q3 := fit.h1; have q4 := fit.h2; have q5 := fit.x2; have q6 := fit.y2; have q7 := fit.wh
  have hk2 := argV_bd hz 1 (o := 1) (lo := 1) (hi := 9999) (by omega) (by omega) (by omega) (by omega)
  obtain ⟨k2, hk2e⟩ : ∃ k2, k2 = argV zs 1 1 := ⟨_, rfl⟩
  rw [← hk2e] at hk2
  have e0_ : IntKind.i64.wrap (k1 - 1) = k1 - 1 := IntWalk.i64_in _ (by omega)
  have e1_ : IntKind.i64.wrap (k2 - 1) = k2 - 1 := IntWalk.i64_in _ (by omega)
  have HA2 := hid (fun V (hb : Below w.heap.size w V) => show Calls Tryz.prog 39 #[.slice A n c, .int .i64 1, .int .i64 1] V fun e w' => e = .returned (.int .i64 k2) ∧ V = w' from by rw [hk2e]; exact l10Arg_any A n c zs 1 1 V ((hr.below (Nat.le_refl _) hb).more hb.size) hl hn8 (by omega))
  have HC := hid (fun V (hb : Below W1.heap.size W1 V) => show Calls Tryz.prog 40 #[.agg (scrA s), .int .i64 (k2 - 1), .int .i64 (k1 - 1)] V (fun e v => AnsL B (w.heap.size + 1) (csiP s.data zs 102) V e v ∧ RowS v w.heap.size s) from by
    have h := spec_ScrGo_any s V B (k2 - 1) (k1 - 1) (O1.out.below (Nat.le_refl _) hb) (szS_ok hok)
    rw [okF_yes (f := fun d => goD d (k2 - 1) (k1 - 1)) hok] at h
    refine (h.mono fun e v h2 => show AnsL B (w.heap.size + 1) (goD s.data (k2 - 1) (k1 - 1)) V e v ∧ RowS v w.heap.size s from ⟨ansL_S (Nat.le_trans hB1 hb.size) (RZ1.out.below hb RZ1.out.lt) h2, by
      obtain ⟨_, _, _, _, hb9⟩ := h2
      exact (RB1.out.below hb RB1.out.lt).below hb9 (RB1.out.below hb RB1.out.lt).lt⟩).mono fun e v h2 => ?_
    have hd : goD s.data (k2 - 1) (k1 - 1) = csiP s.data zs 102 := by
      show goD s.data (k2 - 1) (k1 - 1) = goD s.data (argV zs 1 1 - 1) (argV zs 0 1 - 1)
      rw [← hk, ← hk2e]
    rw [← hd]; exact h2)
  clear ho hok fit ew eh ex ey et eb hr hl hz hk hkk hf1 hf2 hf3 hsl hk2e
  go_enter Tryz.func19, Tryz.ntmps19
  go_upto_region 1 with fail
  rw [← hW]
  clear hW
  go_wp2_with fail
  refine (HA1.out _ H1.out).mono ?_
  rintro e v ⟨rfl, rfl⟩
  go_wp2_with fail
  refine (HA0.out _ H1.out).mono ?_
  rintro e v ⟨rfl, rfl⟩
  go_upto_region 18 with fail
  go_region_held3 (fun w' => rowOf w' w.heap.size = scrA s) (first | assumption | (exact RB1.out.of) | (exact RB3.out.of) | (exact (RB3.out.row_other (by omega)).of)) (first
    | (go_at_call 39; (with_reducible refine (HA2.out _ ?_).mono ?_); exact ⟨H1.out.os, H1.out.tape, H1.out.output, H1.out.size, H1.out.block⟩; rintro e v0 ⟨rfl, rfl⟩)
    | (go_at_call 40; (with_reducible refine (HC.out _ ?_).mono ?_); exact ⟨rfl, rfl, rfl, Nat.le_refl _, fun _ _ => rfl⟩; rintro e v ⟨⟨t, rfl, ht, hd, hb', hz3⟩, hr9⟩; have RB3 := hid hr9; have hb : Below B W1 v := ⟨hb'.os, hb'.tape, hb'.output, hb'.size, hb'.block⟩; have RZ3 := hid hz3; have O3 := hid ht; have D3 := hid hd; have B3 := hid (BL1.out.trans hb); have rz3 : RowZ v (w.heap.size + 1) 31 := RowZ.of RZ3.out.row 31 rfl; clear ht hd hb hb' hz3 hr9))
  all_goals
    go_wp2_with fail
    refine bodyPost_ret (v := .agg (scrA (t))) (res55 Tryz.results19 _ _ (w.heap.size + 1) _ (by simp) ((RZ3.out).row.setRow) rfl) rfl ⟨t, rfl, ?_, ?_, ?_⟩
    · exact OwnS.keepRow (O3.out) (w.heap.size + 1) _ (.inr (RowS.apart (RZ3.out) (O3.out)))
    · exact D3.out
    · exact below_setRow (B3.out) (by omega) _
theorem plain_74 (s : ScrS) (B : Nat) (A : Option Addr) (n c : Nat) (zs : List Int) (w : World) (hB : B ≤ w.heap.size) (ho : OwnS w B s) (hok : okD s.data = true) (hr : RdI w w.heap.size A zs) (hl : zs.length = n) (hz : argB zs = true) :
    Calls Tryz.prog 19 #[.agg (scrA s), .slice A n c, .int .i64 74] w (AnsQ B (csiP s.data zs 74) w) := by
  have hn8 : n ≤ 8 := by have := (argB_t hz).1; omega
  obtain ⟨W, H, X, Y, T, Bt, L, k1, k0, W1, fit, hsl, ew, eh, ex, ey, et, eb, hk1, hk, hkk, hone0, hW, RB1, RZ1, H1, O1, hs1, row1, rz1, hB1, BL1, HA1, HA0, c0, c1, c9, c10, c17, c18⟩ := plain_pre s B A n c zs w hB ho hok hr hl hz
  obtain ⟨hf1, hf2, hf3⟩ := at_fit fit
  have hls := sh_lenS hok
  have q1 := fit.w1; have q2 := fit.w2; have q3 := fit.h1; have q4 := fit.h2; have q5 := fit.x2; have q6 := fit.y2; have q7 := fit.wh
  have e0_ : IntKind.i64.wrap ((W : Int) * (H : Int)) = (W : Int) * (H : Int) := by rw [← Int.natCast_mul]; exact IntWalk.i64_in _ (by omega)
  have HC := hid (show Calls Tryz.prog 41 #[.agg (scrA s), .int .i64 (0), .int .i64 ((W : Int) * (H : Int)), .int .i64 k0] W1 (AnsL B (w.heap.size + 1) (csiP s.data zs 74) W1) from by
    have h := l10Erase_any s B (0) (W * H) k0 W1 hB1 O1.out hok (by omega) (by rw [hsl]; omega) (by rw [hf1]; omega) (by rw [hf1]; omega)
    have e1 : ((0 : Nat) : Int) = 0 := by rfl
    have e2 : ((W * H : Nat) : Int) = (W : Int) * (H : Int) := by rw [Int.natCast_mul]
    rw [e1, e2] at h
    refine (h.mono fun e v h2 => ansL_P hB1 RZ1.out h2).mono fun e v h2 => ?_
    have hd : eraseD s.data (0) (W * H) k0 = csiP s.data zs 74 := by
      show _ = eraseD s.data 0 (s.data.w * s.data.h).toNat (argV zs 0 0)
      rw [← hkk, fit.w, fit.h, ← Int.natCast_mul, Int.toNat_natCast]
    rw [← hd]; exact h2)
  clear ho hok fit ew eh ex ey et eb hr hl hz hk hkk hf1 hf2 hf3 hsl
  go_enter Tryz.func19, Tryz.ntmps19
  go_upto_region 1 with fail
  rw [← hW]
  clear hW
  go_wp2_with fail
  refine (HA1.out _ H1.out).mono ?_
  rintro e v ⟨rfl, rfl⟩
  go_wp2_with fail
  refine (HA0.out _ H1.out).mono ?_
  rintro e v ⟨rfl, rfl⟩
  go_wp2_with fail
  refine HC.out.mono ?_
  rintro e v ⟨t, rfl, ht, hd, hb, hz3⟩
  have RZ3 := hid hz3
  have O3 := hid ht
  have D3 := hid hd
  have B3 := hid (BL1.out.trans hb)
  have rz3 : RowZ v (w.heap.size + 1) 31 := RowZ.of RZ3.out.row 31 rfl
  clear ht hd hb hz3 HC row1 rz1 c0 c1 c9 c10 c17 c18
  go_wp2_with fail
  refine bodyPost_ret (v := .agg (scrA (t))) (res55 Tryz.results19 _ _ (w.heap.size + 1) _ (by simp) ((RZ3.out).row.setRow) rfl) rfl ⟨t, rfl, ?_, ?_, ?_⟩
  · exact OwnS.keepRow (O3.out) (w.heap.size + 1) _ (.inr (RowS.apart (RZ3.out) (O3.out)))
  · exact D3.out
  · exact below_setRow (B3.out) (by omega) _
theorem plain_75 (s : ScrS) (B : Nat) (A : Option Addr) (n c : Nat) (zs : List Int) (w : World) (hB : B ≤ w.heap.size) (ho : OwnS w B s) (hok : okD s.data = true) (hr : RdI w w.heap.size A zs) (hl : zs.length = n) (hz : argB zs = true) :
    Calls Tryz.prog 19 #[.agg (scrA s), .slice A n c, .int .i64 75] w (AnsQ B (csiP s.data zs 75) w) := by
  have hn8 : n ≤ 8 := by have := (argB_t hz).1; omega
  obtain ⟨W, H, X, Y, T, Bt, L, k1, k0, W1, fit, hsl, ew, eh, ex, ey, et, eb, hk1, hk, hkk, hone0, hW, RB1, RZ1, H1, O1, hs1, row1, rz1, hB1, BL1, HA1, HA0, c0, c1, c9, c10, c17, c18⟩ := plain_pre s B A n c zs w hB ho hok hr hl hz
  obtain ⟨hf1, hf2, hf3⟩ := at_fit fit
  have hls := sh_lenS hok
  have q1 := fit.w1; have q2 := fit.w2; have q3 := fit.h1; have q4 := fit.h2; have q5 := fit.x2; have q6 := fit.y2; have q7 := fit.wh
  have e0_ : IntKind.i64.wrap ((Y : Int) * (W : Int)) = (Y : Int) * (W : Int) := by rw [← Int.natCast_mul]; exact IntWalk.i64_in _ (by omega)
  have e1_ : IntKind.i64.wrap ((Y : Int) * (W : Int) + (W : Int)) = (Y : Int) * (W : Int) + (W : Int) := by rw [← Int.natCast_mul, ← Int.natCast_add]; exact IntWalk.i64_in _ (by omega)
  have HC := hid (show Calls Tryz.prog 41 #[.agg (scrA s), .int .i64 ((Y : Int) * (W : Int)), .int .i64 ((Y : Int) * (W : Int) + (W : Int)), .int .i64 k0] W1 (AnsL B (w.heap.size + 1) (csiP s.data zs 75) W1) from by
    have h := l10Erase_any s B (Y * W) (Y * W + W) k0 W1 hB1 O1.out hok (by omega) (by rw [hsl]; omega) (by rw [hf1]; omega) (by rw [hf1]; omega)
    have e1 : ((Y * W : Nat) : Int) = (Y : Int) * (W : Int) := by rw [Int.natCast_mul]
    have e2 : ((Y * W + W : Nat) : Int) = (Y : Int) * (W : Int) + (W : Int) := by rw [Int.natCast_add, Int.natCast_mul]
    rw [e1, e2] at h
    refine (h.mono fun e v h2 => ansL_P hB1 RZ1.out h2).mono fun e v h2 => ?_
    have hd : eraseD s.data (Y * W) (Y * W + W) k0 = csiP s.data zs 75 := by
      show _ = eraseD s.data (s.data.y * s.data.w).toNat (s.data.y * s.data.w + s.data.w).toNat (argV zs 0 0)
      rw [← hkk, fit.w, fit.y, ← Int.natCast_mul, ← Int.natCast_add, Int.toNat_natCast, Int.toNat_natCast]
    rw [← hd]; exact h2)
  clear ho hok fit ew eh ex ey et eb hr hl hz hk hkk hf1 hf2 hf3 hsl
  go_enter Tryz.func19, Tryz.ntmps19
  go_upto_region 1 with fail
  rw [← hW]
  clear hW
  go_wp2_with fail
  refine (HA1.out _ H1.out).mono ?_
  rintro e v ⟨rfl, rfl⟩
  go_wp2_with fail
  refine (HA0.out _ H1.out).mono ?_
  rintro e v ⟨rfl, rfl⟩
  go_wp2_with fail
  refine HC.out.mono ?_
  rintro e v ⟨t, rfl, ht, hd, hb, hz3⟩
  have RZ3 := hid hz3
  have O3 := hid ht
  have D3 := hid hd
  have B3 := hid (BL1.out.trans hb)
  have rz3 : RowZ v (w.heap.size + 1) 31 := RowZ.of RZ3.out.row 31 rfl
  clear ht hd hb hz3 HC row1 rz1 c0 c1 c9 c10 c17 c18
  go_wp2_with fail
  refine bodyPost_ret (v := .agg (scrA (t))) (res55 Tryz.results19 _ _ (w.heap.size + 1) _ (by simp) ((RZ3.out).row.setRow) rfl) rfl ⟨t, rfl, ?_, ?_, ?_⟩
  · exact OwnS.keepRow (O3.out) (w.heap.size + 1) _ (.inr (RowS.apart (RZ3.out) (O3.out)))
  · exact D3.out
  · exact below_setRow (B3.out) (by omega) _
theorem plain_88 (s : ScrS) (B : Nat) (A : Option Addr) (n c : Nat) (zs : List Int) (w : World) (hB : B ≤ w.heap.size) (ho : OwnS w B s) (hok : okD s.data = true) (hr : RdI w w.heap.size A zs) (hl : zs.length = n) (hz : argB zs = true) :
    Calls Tryz.prog 19 #[.agg (scrA s), .slice A n c, .int .i64 88] w (AnsQ B (csiP s.data zs 88) w) := by
  have hn8 : n ≤ 8 := by have := (argB_t hz).1; omega
  obtain ⟨W, H, X, Y, T, Bt, L, k1, k0, W1, fit, hsl, ew, eh, ex, ey, et, eb, hk1, hk, hkk, hone0, hW, RB1, RZ1, H1, O1, hs1, row1, rz1, hB1, BL1, HA1, HA0, c0, c1, c9, c10, c17, c18⟩ := plain_pre s B A n c zs w hB ho hok hr hl hz
  obtain ⟨hf1, hf2, hf3⟩ := at_fit fit
  have hls := sh_lenS hok
  have q1 := fit.w1; have q2 := fit.w2; have q3 := fit.h1; have q4 := fit.h2; have q5 := fit.x2; have q6 := fit.y2; have q7 := fit.wh
  obtain ⟨R, hR⟩ : ∃ R, R = over (shD s.data) (atD s.data) (List.replicate (min k1 (s.data.w - s.data.x)).toNat blankC) := ⟨_, rfl⟩
  have HGR := hid (show ∀ (W0 : World), OwnS W0 B s → Calls Tryz.prog 43 #[.agg #[.int .i64 (shW s), .int .i64 (shH s), .slice (shC s).A (shC s).cs.length (shC s).c], .int .i64 (X : Int), .int .i64 (Y : Int), .int .i64 k1, .int .i64 1, .agg #[.int .i64 32, .int .i64 0, .int .i64 0, .bool false, .bool false, .bool false]] W0 (fun e w' => ∃ A c, e = .returned (.agg #[.int .i64 (shW s), .int .i64 (shH s), .slice A R.length c]) ∧ OwnC w' W0.heap.size A R.length c R ∧ Below W0.heap.size W0 w') from fun W0 h => by
    have h2 := spec_GridFill_own (shW s) (shH s) s.x s.y k1 1 32 0 0 false false false (own_sh h) hls
    rw [fillX_ok hok hk1.1 hk1.2, ← hR, ex, ey] at h2
    exact h2)
  have HD := hid (show putD s.data R = csiP s.data zs 88 from by rw [hR]; rw [hk]; rfl)
  have SOK := hid (fun w' (h : RowS w' w.heap.size s) => show rowOf w' w.heap.size = scrA s ∧ (w'.cell? ⟨w.heap.size, 9, none⟩ = some (.int .i64 (X : Int)) ∧ w'.cell? ⟨w.heap.size, 10, none⟩ = some (.int .i64 (Y : Int))) from ⟨h.of, by rw [← ex]; exact h.cell 9, by rw [← ey]; exact h.cell 10⟩)
  clear ho hok fit ew eh ex ey et eb hr hl hz hk hkk hf1 hf2 hf3 hsl hR
  go_enter Tryz.func19, Tryz.ntmps19
  go_upto_region 1 with fail
  rw [← hW]
  clear hW
  go_wp2_with fail
  refine (HA1.out _ H1.out).mono ?_
  rintro e v ⟨rfl, rfl⟩
  go_wp2_with fail
  refine (HA0.out _ H1.out).mono ?_
  rintro e v ⟨rfl, rfl⟩
  go_upto_region 24 with fail
  clear row1 c0 c1 c9 c10 c17 c18
  go_region_held3 (fun w' => rowOf w' w.heap.size = scrA s ∧ (w'.cell? ⟨w.heap.size, 9, none⟩ = some (.int .i64 (X : Int)) ∧ w'.cell? ⟨w.heap.size, 10, none⟩ = some (.int .i64 (Y : Int)))) (first | assumption | (exact SOK.out _ RB1.out) | (exact SOK.out _ RS1.out) | (exact SOK.out _ RSb.out) | (exact SOK.out _ RS2.out) | (exact SOK.out _ RS3.out) | (exact SOK.out _ (RS3.out.row_other (by omega)))) (first
    | (go_at_call 44; (with_reducible refine (l09Shown_any s _).mono ?_); rintro e y1 ⟨rfl, hb1'⟩; have hb1 : Below W1.heap.size W1 y1 := undrew hb1'; have RS1 := hid (RB1.out.below hb1 RB1.out.lt); have Z31 := hid (RZ1.out.below hb1 RZ1.out.lt); have H31 := hid (H1.out.trans (hb1.mono (by omega))); have O31 := hid (O1.out.below (Nat.le_refl _) hb1); have z31 := hb1.size; clear hb1 hb1')
    | (go_at_call 45; (with_reducible refine (blank_any _).mono ?_); rintro e yb ⟨rfl, hbb⟩; have RSb := hid (RS1.out.below hbb RS1.out.lt); have Zb := hid (Z31.out.below hbb Z31.out.lt); have Hb := hid (H31.out.trans (hbb.mono (by omega))); have Ob := hid (O31.out.below (Nat.le_refl _) hbb); have zb := hbb.size; clear hbb)
    | (go_at_call 43; (with_reducible refine (HGR.out yb Ob.out).mono ?_); rintro e y2 ⟨A9, c9_, rfl, ho9, hb2⟩; have RS2 := hid (RSb.out.below hb2 RSb.out.lt); have Z32 := hid (Zb.out.below hb2 Zb.out.lt); have H32 := hid (Hb.out.trans (hb2.mono (by omega))); have O32 := hid (own_put (gw := shW s) (gh := shH s) Ob.out hb2 ho9 (by omega)); have z32 := hb2.size; clear hb2 ho9)
    | (go_at_call 42; (with_reducible refine (l09Put_any s (shW s) (shH s) A9 c9_ R _).mono ?_); rintro e y3 ⟨rfl, hb3⟩; have RS3 := hid (RS2.out.below hb3 RS2.out.lt); have Z33 := hid (Z32.out.below hb3 Z32.out.lt); have H33 := hid (H32.out.trans (hb3.mono (by omega))); have O33 := hid (O32.out.below (Nat.le_refl _) hb3); have rz33 : RowZ y3 (w.heap.size + 1) 31 := RowZ.of Z33.out.row 31 rfl; clear hb3))
  all_goals
    go_wp2_with fail
    refine bodyPost_ret (v := .agg (scrA (putS s (shW s) (shH s) ⟨A9, c9_, R⟩))) (res55 Tryz.results19 _ _ (w.heap.size + 1) _ (by simp) ((Z33.out).row.setRow) rfl) rfl ⟨putS s (shW s) (shH s) ⟨A9, c9_, R⟩, rfl, ?_, ?_, ?_⟩
    · exact OwnS.keepRow (O33.out) (w.heap.size + 1) _ (.inr (RowS.apart (Z33.out) (O33.out)))
    · rw [← HD.out]; exact put_data
    · exact below_setRow (H33.out.mono hB) (by omega) _
theorem plain_64 (s : ScrS) (B : Nat) (A : Option Addr) (n c : Nat) (zs : List Int) (w : World) (hB : B ≤ w.heap.size) (ho : OwnS w B s) (hok : okD s.data = true) (hr : RdI w w.heap.size A zs) (hl : zs.length = n) (hz : argB zs = true) :
    Calls Tryz.prog 19 #[.agg (scrA s), .slice A n c, .int .i64 64] w (AnsQ B (csiP s.data zs 64) w) := by
  have hn8 : n ≤ 8 := by have := (argB_t hz).1; omega
  obtain ⟨W, H, X, Y, T, Bt, L, k1, k0, W1, fit, hsl, ew, eh, ex, ey, et, eb, hk1, hk, hkk, hone0, hW, RB1, RZ1, H1, O1, hs1, row1, rz1, hB1, BL1, HA1, HA0, c0, c1, c9, c10, c17, c18⟩ := plain_pre s B A n c zs w hB ho hok hr hl hz
  obtain ⟨hf1, hf2, hf3⟩ := at_fit fit
  have hls := sh_lenS hok
  have q1 := fit.w1; have q2 := fit.w2; have q3 := fit.h1; have q4 := fit.h2; have q5 := fit.x2; have q6 := fit.y2; have q7 := fit.wh
  obtain ⟨R, hR⟩ : ∃ R, R = over (shD s.data) (atD s.data) (shiftL (shD s.data) (atD s.data) (s.data.w - s.data.x).toNat (k1)) := ⟨_, rfl⟩
  have HGR := hid (show ∀ (W0 : World), OwnS W0 B s → Calls Tryz.prog 46 #[.agg #[.int .i64 (shW s), .int .i64 (shH s), .slice (shC s).A (shC s).cs.length (shC s).c], .int .i64 (X : Int), .int .i64 (Y : Int), .int .i64 (k1)] W0 (fun e w' => ∃ A c, e = .returned (.agg #[.int .i64 (shW s), .int .i64 (shH s), .slice A R.length c]) ∧ OwnC w' W0.heap.size A R.length c R ∧ Below W0.heap.size W0 w') from fun W0 h => by
    have h2 := spec_GridShift_own (shW s) (shH s) s.x s.y (k1) (own_sh h) hls
    rw [shiftX_ok hok, ← hR, ex, ey] at h2
    exact h2)
  have HD := hid (show putD s.data R = csiP s.data zs 64 from by rw [hR]; rw [hk]; rfl)
  have SOK := hid (fun w' (h : RowS w' w.heap.size s) => show rowOf w' w.heap.size = scrA s ∧ (w'.cell? ⟨w.heap.size, 9, none⟩ = some (.int .i64 (X : Int)) ∧ w'.cell? ⟨w.heap.size, 10, none⟩ = some (.int .i64 (Y : Int))) from ⟨h.of, by rw [← ex]; exact h.cell 9, by rw [← ey]; exact h.cell 10⟩)
  clear ho hok fit ew eh ex ey et eb hr hl hz hk hkk hf1 hf2 hf3 hsl hR
  go_enter Tryz.func19, Tryz.ntmps19
  go_upto_region 1 with fail
  rw [← hW]
  clear hW
  go_wp2_with fail
  refine (HA1.out _ H1.out).mono ?_
  rintro e v ⟨rfl, rfl⟩
  go_wp2_with fail
  refine (HA0.out _ H1.out).mono ?_
  rintro e v ⟨rfl, rfl⟩
  go_upto_region 26 with fail
  clear row1 c0 c1 c9 c10 c17 c18
  go_region_held3 (fun w' => rowOf w' w.heap.size = scrA s ∧ (w'.cell? ⟨w.heap.size, 9, none⟩ = some (.int .i64 (X : Int)) ∧ w'.cell? ⟨w.heap.size, 10, none⟩ = some (.int .i64 (Y : Int)))) (first | assumption | (exact SOK.out _ RB1.out) | (exact SOK.out _ RS1.out) | (exact SOK.out _ RS2.out) | (exact SOK.out _ RS3.out) | (exact SOK.out _ (RS3.out.row_other (by omega)))) (first
    | (go_at_call 44; (with_reducible refine (l09Shown_any s _).mono ?_); rintro e y1 ⟨rfl, hb1'⟩; have hb1 : Below W1.heap.size W1 y1 := undrew hb1'; have RS1 := hid (RB1.out.below hb1 RB1.out.lt); have Z31 := hid (RZ1.out.below hb1 RZ1.out.lt); have H31 := hid (H1.out.trans (hb1.mono (by omega))); have O31 := hid (O1.out.below (Nat.le_refl _) hb1); have z31 := hb1.size; clear hb1 hb1')
    | (go_at_call 46; (with_reducible refine (HGR.out y1 O31.out).mono ?_); rintro e y2 ⟨A9, c9_, rfl, ho9, hb2⟩; have RS2 := hid (RS1.out.below hb2 RS1.out.lt); have Z32 := hid (Z31.out.below hb2 Z31.out.lt); have H32 := hid (H31.out.trans (hb2.mono (by omega))); have O32 := hid (own_put (gw := shW s) (gh := shH s) O31.out hb2 ho9 (by omega)); have z32 := hb2.size; clear hb2 ho9)
    | (go_at_call 42; (with_reducible refine (l09Put_any s (shW s) (shH s) A9 c9_ R _).mono ?_); rintro e y3 ⟨rfl, hb3⟩; have RS3 := hid (RS2.out.below hb3 RS2.out.lt); have Z33 := hid (Z32.out.below hb3 Z32.out.lt); have H33 := hid (H32.out.trans (hb3.mono (by omega))); have O33 := hid (O32.out.below (Nat.le_refl _) hb3); have rz33 : RowZ y3 (w.heap.size + 1) 31 := RowZ.of Z33.out.row 31 rfl; clear hb3))
  all_goals
    go_wp2_with fail
    refine bodyPost_ret (v := .agg (scrA (putS s (shW s) (shH s) ⟨A9, c9_, R⟩))) (res55 Tryz.results19 _ _ (w.heap.size + 1) _ (by simp) ((Z33.out).row.setRow) rfl) rfl ⟨putS s (shW s) (shH s) ⟨A9, c9_, R⟩, rfl, ?_, ?_, ?_⟩
    · exact OwnS.keepRow (O33.out) (w.heap.size + 1) _ (.inr (RowS.apart (Z33.out) (O33.out)))
    · rw [← HD.out]; exact put_data
    · exact below_setRow (H33.out.mono hB) (by omega) _
theorem plain_80 (s : ScrS) (B : Nat) (A : Option Addr) (n c : Nat) (zs : List Int) (w : World) (hB : B ≤ w.heap.size) (ho : OwnS w B s) (hok : okD s.data = true) (hr : RdI w w.heap.size A zs) (hl : zs.length = n) (hz : argB zs = true) :
    Calls Tryz.prog 19 #[.agg (scrA s), .slice A n c, .int .i64 80] w (AnsQ B (csiP s.data zs 80) w) := by
  have hn8 : n ≤ 8 := by have := (argB_t hz).1; omega
  obtain ⟨W, H, X, Y, T, Bt, L, k1, k0, W1, fit, hsl, ew, eh, ex, ey, et, eb, hk1, hk, hkk, hone0, hW, RB1, RZ1, H1, O1, hs1, row1, rz1, hB1, BL1, HA1, HA0, c0, c1, c9, c10, c17, c18⟩ := plain_pre s B A n c zs w hB ho hok hr hl hz
  obtain ⟨hf1, hf2, hf3⟩ := at_fit fit
  have hls := sh_lenS hok
  have q1 := fit.w1; have q2 := fit.w2; have q3 := fit.h1; have q4 := fit.h2; have q5 := fit.x2; have q6 := fit.y2; have q7 := fit.wh
  have e0_ : IntKind.i64.wrap (-k1) = -k1 := IntWalk.i64_in _ (by omega)
  obtain ⟨R, hR⟩ : ∃ R, R = over (shD s.data) (atD s.data) (shiftL (shD s.data) (atD s.data) (s.data.w - s.data.x).toNat (-k1)) := ⟨_, rfl⟩
  have HGR := hid (show ∀ (W0 : World), OwnS W0 B s → Calls Tryz.prog 46 #[.agg #[.int .i64 (shW s), .int .i64 (shH s), .slice (shC s).A (shC s).cs.length (shC s).c], .int .i64 (X : Int), .int .i64 (Y : Int), .int .i64 (-k1)] W0 (fun e w' => ∃ A c, e = .returned (.agg #[.int .i64 (shW s), .int .i64 (shH s), .slice A R.length c]) ∧ OwnC w' W0.heap.size A R.length c R ∧ Below W0.heap.size W0 w') from fun W0 h => by
    have h2 := spec_GridShift_own (shW s) (shH s) s.x s.y (-k1) (own_sh h) hls
    rw [shiftX_ok hok, ← hR, ex, ey] at h2
    exact h2)
  have HD := hid (show putD s.data R = csiP s.data zs 80 from by rw [hR]; rw [hk]; rfl)
  have SOK := hid (fun w' (h : RowS w' w.heap.size s) => show rowOf w' w.heap.size = scrA s ∧ (w'.cell? ⟨w.heap.size, 9, none⟩ = some (.int .i64 (X : Int)) ∧ w'.cell? ⟨w.heap.size, 10, none⟩ = some (.int .i64 (Y : Int))) from ⟨h.of, by rw [← ex]; exact h.cell 9, by rw [← ey]; exact h.cell 10⟩)
  clear ho hok fit ew eh ex ey et eb hr hl hz hk hkk hf1 hf2 hf3 hsl hR
  go_enter Tryz.func19, Tryz.ntmps19
  go_upto_region 1 with fail
  rw [← hW]
  clear hW
  go_wp2_with fail
  refine (HA1.out _ H1.out).mono ?_
  rintro e v ⟨rfl, rfl⟩
  go_wp2_with fail
  refine (HA0.out _ H1.out).mono ?_
  rintro e v ⟨rfl, rfl⟩
  go_upto_region 28 with fail
  clear row1 c0 c1 c9 c10 c17 c18
  go_region_held3 (fun w' => rowOf w' w.heap.size = scrA s ∧ (w'.cell? ⟨w.heap.size, 9, none⟩ = some (.int .i64 (X : Int)) ∧ w'.cell? ⟨w.heap.size, 10, none⟩ = some (.int .i64 (Y : Int)))) (first | assumption | (exact SOK.out _ RB1.out) | (exact SOK.out _ RS1.out) | (exact SOK.out _ RS2.out) | (exact SOK.out _ RS3.out) | (exact SOK.out _ (RS3.out.row_other (by omega)))) (first
    | (go_at_call 44; (with_reducible refine (l09Shown_any s _).mono ?_); rintro e y1 ⟨rfl, hb1'⟩; have hb1 : Below W1.heap.size W1 y1 := undrew hb1'; have RS1 := hid (RB1.out.below hb1 RB1.out.lt); have Z31 := hid (RZ1.out.below hb1 RZ1.out.lt); have H31 := hid (H1.out.trans (hb1.mono (by omega))); have O31 := hid (O1.out.below (Nat.le_refl _) hb1); have z31 := hb1.size; clear hb1 hb1')
    | (go_at_call 46; (with_reducible refine (HGR.out y1 O31.out).mono ?_); rintro e y2 ⟨A9, c9_, rfl, ho9, hb2⟩; have RS2 := hid (RS1.out.below hb2 RS1.out.lt); have Z32 := hid (Z31.out.below hb2 Z31.out.lt); have H32 := hid (H31.out.trans (hb2.mono (by omega))); have O32 := hid (own_put (gw := shW s) (gh := shH s) O31.out hb2 ho9 (by omega)); have z32 := hb2.size; clear hb2 ho9)
    | (go_at_call 42; (with_reducible refine (l09Put_any s (shW s) (shH s) A9 c9_ R _).mono ?_); rintro e y3 ⟨rfl, hb3⟩; have RS3 := hid (RS2.out.below hb3 RS2.out.lt); have Z33 := hid (Z32.out.below hb3 Z32.out.lt); have H33 := hid (H32.out.trans (hb3.mono (by omega))); have O33 := hid (O32.out.below (Nat.le_refl _) hb3); have rz33 : RowZ y3 (w.heap.size + 1) 31 := RowZ.of Z33.out.row 31 rfl; clear hb3))
  all_goals
    go_wp2_with fail
    refine bodyPost_ret (v := .agg (scrA (putS s (shW s) (shH s) ⟨A9, c9_, R⟩))) (res55 Tryz.results19 _ _ (w.heap.size + 1) _ (by simp) ((Z33.out).row.setRow) rfl) rfl ⟨putS s (shW s) (shH s) ⟨A9, c9_, R⟩, rfl, ?_, ?_, ?_⟩
    · exact OwnS.keepRow (O33.out) (w.heap.size + 1) _ (.inr (RowS.apart (Z33.out) (O33.out)))
    · rw [← HD.out]; exact put_data
    · exact below_setRow (H33.out.mono hB) (by omega) _
theorem plain_76 (s : ScrS) (B : Nat) (A : Option Addr) (n c : Nat) (zs : List Int) (w : World) (hB : B ≤ w.heap.size) (ho : OwnS w B s) (hok : okD s.data = true) (hr : RdI w w.heap.size A zs) (hl : zs.length = n) (hz : argB zs = true) :
    Calls Tryz.prog 19 #[.agg (scrA s), .slice A n c, .int .i64 76] w (AnsQ B (csiP s.data zs 76) w) := by
  have hn8 : n ≤ 8 := by have := (argB_t hz).1; omega
  obtain ⟨W, H, X, Y, T, Bt, L, k1, k0, W1, fit, hsl, ew, eh, ex, ey, et, eb, hk1, hk, hkk, hone0, hW, RB1, RZ1, H1, O1, hs1, row1, rz1, hB1, BL1, HA1, HA0, c0, c1, c9, c10, c17, c18⟩ := plain_pre s B A n c zs w hB ho hok hr hl hz
  obtain ⟨hf1, hf2, hf3⟩ := at_fit fit
  have hls := sh_lenS hok
  have q1 := fit.w1; have q2 := fit.w2; have q3 := fit.h1; have q4 := fit.h2; have q5 := fit.x2; have q6 := fit.y2; have q7 := fit.wh
  have e0_ : IntKind.i64.wrap (-k1) = -k1 := by exact IntWalk.i64_in _ (by omega)
  have HC := hid (show Calls Tryz.prog 47 #[.agg (scrA s), .int .i64 (-k1)] W1 (AnsL B (w.heap.size + 1) (csiP s.data zs 76) W1) from by
    have h := l10Lines_any s B (-k1) W1 hB1 O1.out hok
    refine (h.mono fun e v h2 => ansL_P hB1 RZ1.out h2).mono fun e v h2 => ?_
    have hd : linesD s.data (-k1) = csiP s.data zs 76 := by rw [hk]; rfl
    rw [← hd]; exact h2)
  clear ho hok fit ew eh ex ey et eb hr hl hz hk hkk hf1 hf2 hf3 hsl
  go_enter Tryz.func19, Tryz.ntmps19
  go_upto_region 1 with fail
  rw [← hW]
  clear hW
  go_wp2_with fail
  refine (HA1.out _ H1.out).mono ?_
  rintro e v ⟨rfl, rfl⟩
  go_wp2_with fail
  refine (HA0.out _ H1.out).mono ?_
  rintro e v ⟨rfl, rfl⟩
  go_wp2_with fail
  refine HC.out.mono ?_
  rintro e v ⟨t, rfl, ht, hd, hb, hz3⟩
  have RZ3 := hid hz3
  have O3 := hid ht
  have D3 := hid hd
  have B3 := hid (BL1.out.trans hb)
  have rz3 : RowZ v (w.heap.size + 1) 31 := RowZ.of RZ3.out.row 31 rfl
  clear ht hd hb hz3 HC row1 rz1 c0 c1 c9 c10 c17 c18
  go_wp2_with fail
  refine bodyPost_ret (v := .agg (scrA (t))) (res55 Tryz.results19 _ _ (w.heap.size + 1) _ (by simp) ((RZ3.out).row.setRow) rfl) rfl ⟨t, rfl, ?_, ?_, ?_⟩
  · exact OwnS.keepRow (O3.out) (w.heap.size + 1) _ (.inr (RowS.apart (RZ3.out) (O3.out)))
  · exact D3.out
  · exact below_setRow (B3.out) (by omega) _
theorem plain_77 (s : ScrS) (B : Nat) (A : Option Addr) (n c : Nat) (zs : List Int) (w : World) (hB : B ≤ w.heap.size) (ho : OwnS w B s) (hok : okD s.data = true) (hr : RdI w w.heap.size A zs) (hl : zs.length = n) (hz : argB zs = true) :
    Calls Tryz.prog 19 #[.agg (scrA s), .slice A n c, .int .i64 77] w (AnsQ B (csiP s.data zs 77) w) := by
  have hn8 : n ≤ 8 := by have := (argB_t hz).1; omega
  obtain ⟨W, H, X, Y, T, Bt, L, k1, k0, W1, fit, hsl, ew, eh, ex, ey, et, eb, hk1, hk, hkk, hone0, hW, RB1, RZ1, H1, O1, hs1, row1, rz1, hB1, BL1, HA1, HA0, c0, c1, c9, c10, c17, c18⟩ := plain_pre s B A n c zs w hB ho hok hr hl hz
  obtain ⟨hf1, hf2, hf3⟩ := at_fit fit
  have hls := sh_lenS hok
  have q1 := fit.w1; have q2 := fit.w2; have q3 := fit.h1; have q4 := fit.h2; have q5 := fit.x2; have q6 := fit.y2; have q7 := fit.wh
  have HC := hid (show Calls Tryz.prog 47 #[.agg (scrA s), .int .i64 (k1)] W1 (AnsL B (w.heap.size + 1) (csiP s.data zs 77) W1) from by
    have h := l10Lines_any s B (k1) W1 hB1 O1.out hok
    refine (h.mono fun e v h2 => ansL_P hB1 RZ1.out h2).mono fun e v h2 => ?_
    have hd : linesD s.data (k1) = csiP s.data zs 77 := by rw [hk]; rfl
    rw [← hd]; exact h2)
  clear ho hok fit ew eh ex ey et eb hr hl hz hk hkk hf1 hf2 hf3 hsl
  go_enter Tryz.func19, Tryz.ntmps19
  go_upto_region 1 with fail
  rw [← hW]
  clear hW
  go_wp2_with fail
  refine (HA1.out _ H1.out).mono ?_
  rintro e v ⟨rfl, rfl⟩
  go_wp2_with fail
  refine (HA0.out _ H1.out).mono ?_
  rintro e v ⟨rfl, rfl⟩
  go_wp2_with fail
  refine HC.out.mono ?_
  rintro e v ⟨t, rfl, ht, hd, hb, hz3⟩
  have RZ3 := hid hz3
  have O3 := hid ht
  have D3 := hid hd
  have B3 := hid (BL1.out.trans hb)
  have rz3 : RowZ v (w.heap.size + 1) 31 := RowZ.of RZ3.out.row 31 rfl
  clear ht hd hb hz3 HC row1 rz1 c0 c1 c9 c10 c17 c18
  go_wp2_with fail
  refine bodyPost_ret (v := .agg (scrA (t))) (res55 Tryz.results19 _ _ (w.heap.size + 1) _ (by simp) ((RZ3.out).row.setRow) rfl) rfl ⟨t, rfl, ?_, ?_, ?_⟩
  · exact OwnS.keepRow (O3.out) (w.heap.size + 1) _ (.inr (RowS.apart (RZ3.out) (O3.out)))
  · exact D3.out
  · exact below_setRow (B3.out) (by omega) _
theorem plain_83 (s : ScrS) (B : Nat) (A : Option Addr) (n c : Nat) (zs : List Int) (w : World) (hB : B ≤ w.heap.size) (ho : OwnS w B s) (hok : okD s.data = true) (hr : RdI w w.heap.size A zs) (hl : zs.length = n) (hz : argB zs = true) :
    Calls Tryz.prog 19 #[.agg (scrA s), .slice A n c, .int .i64 83] w (AnsQ B (csiP s.data zs 83) w) := by
  have hn8 : n ≤ 8 := by have := (argB_t hz).1; omega
  obtain ⟨W, H, X, Y, T, Bt, L, k1, k0, W1, fit, hsl, ew, eh, ex, ey, et, eb, hk1, hk, hkk, hone0, hW, RB1, RZ1, H1, O1, hs1, row1, rz1, hB1, BL1, HA1, HA0, c0, c1, c9, c10, c17, c18⟩ := plain_pre s B A n c zs w hB ho hok hr hl hz
  obtain ⟨hf1, hf2, hf3⟩ := at_fit fit
  have hls := sh_lenS hok
  have q1 := fit.w1; have q2 := fit.w2; have q3 := fit.h1; have q4 := fit.h2; have q5 := fit.x2; have q6 := fit.y2; have q7 := fit.wh
  have HC := hid (show Calls Tryz.prog 48 #[.agg (scrA s), .int .i64 k1] W1 (AnsL B (w.heap.size + 1) (csiP s.data zs 83) W1) from by
    have h := l09RollN_any s B k1 W1 hB1 O1.out hok hk1.1 hk1.2
    refine (h.mono fun e v h2 => ansL_K RZ1.out h2).mono fun e v h2 => ?_
    have hd : scrollD s.data k1 = csiP s.data zs 83 := by rw [hk]; rfl
    rw [← hd]; exact h2)
  clear ho hok fit ew eh ex ey et eb hr hl hz hk hkk hf1 hf2 hf3 hsl
  go_enter Tryz.func19, Tryz.ntmps19
  go_upto_region 1 with fail
  rw [← hW]
  clear hW
  go_wp2_with fail
  refine (HA1.out _ H1.out).mono ?_
  rintro e v ⟨rfl, rfl⟩
  go_wp2_with fail
  refine (HA0.out _ H1.out).mono ?_
  rintro e v ⟨rfl, rfl⟩
  go_wp2_with fail
  refine HC.out.mono ?_
  rintro e v ⟨t, rfl, ht, hd, hb, hz3⟩
  have RZ3 := hid hz3
  have O3 := hid ht
  have D3 := hid hd
  have B3 := hid (BL1.out.trans hb)
  have rz3 : RowZ v (w.heap.size + 1) 31 := RowZ.of RZ3.out.row 31 rfl
  clear ht hd hb hz3 HC row1 rz1 c0 c1 c9 c10 c17 c18
  go_wp2_with fail
  refine bodyPost_ret (v := .agg (scrA (t))) (res55 Tryz.results19 _ _ (w.heap.size + 1) _ (by simp) ((RZ3.out).row.setRow) rfl) rfl ⟨t, rfl, ?_, ?_, ?_⟩
  · exact OwnS.keepRow (O3.out) (w.heap.size + 1) _ (.inr (RowS.apart (RZ3.out) (O3.out)))
  · exact D3.out
  · exact below_setRow (B3.out) (by omega) _
theorem plain_84 (s : ScrS) (B : Nat) (A : Option Addr) (n c : Nat) (zs : List Int) (w : World) (hB : B ≤ w.heap.size) (ho : OwnS w B s) (hok : okD s.data = true) (hr : RdI w w.heap.size A zs) (hl : zs.length = n) (hz : argB zs = true) :
    Calls Tryz.prog 19 #[.agg (scrA s), .slice A n c, .int .i64 84] w (AnsQ B (csiP s.data zs 84) w) := by
  have hn8 : n ≤ 8 := by have := (argB_t hz).1; omega
  obtain ⟨W, H, X, Y, T, Bt, L, k1, k0, W1, fit, hsl, ew, eh, ex, ey, et, eb, hk1, hk, hkk, hone0, hW, RB1, RZ1, H1, O1, hs1, row1, rz1, hB1, BL1, HA1, HA0, c0, c1, c9, c10, c17, c18⟩ := plain_pre s B A n c zs w hB ho hok hr hl hz
  obtain ⟨hf1, hf2, hf3⟩ := at_fit fit
  have hls := sh_lenS hok
  have q1 := fit.w1; have q2 := fit.w2; have q3 := fit.h1; have q4 := fit.h2; have q5 := fit.x2; have q6 := fit.y2; have q7 := fit.wh
  have e0_ : IntKind.i64.wrap (-k1) = -k1 := IntWalk.i64_in _ (by omega)
  obtain ⟨R, hR⟩ : ∃ R, R = rollC s.data s.top s.bot (-k1) := ⟨_, rfl⟩
  have HGR := hid (show ∀ (W0 : World), OwnS W0 B s → Calls Tryz.prog 49 #[.agg #[.int .i64 (shW s), .int .i64 (shH s), .slice (shC s).A (shC s).cs.length (shC s).c], .int .i64 (T : Int), .int .i64 (Bt : Int), .int .i64 (-k1)] W0 (fun e w' => ∃ A c, e = .returned (.agg #[.int .i64 (shW s), .int .i64 (shH s), .slice A R.length c]) ∧ OwnC w' W0.heap.size A R.length c R ∧ Below W0.heap.size W0 w') from fun W0 h => by
    have h2 := spec_GridRoll_own (shW s) (shH s) s.top s.bot (-k1) (own_sh h) hls
    rw [roll_ok hok, ← hR, et, eb] at h2
    exact h2)
  have HD := hid (show putD s.data R = csiP s.data zs 84 from by rw [hR]; show putD s.data (rollC s.data s.data.top s.data.bot (-k1)) = scrollD s.data (-argV zs 0 1); rw [← hk, scrollD_neg fit (by omega)])
  have SOK := hid (fun w' (h : RowS w' w.heap.size s) => show rowOf w' w.heap.size = scrA s ∧ (w'.cell? ⟨w.heap.size, 17, none⟩ = some (.int .i64 (T : Int)) ∧ w'.cell? ⟨w.heap.size, 18, none⟩ = some (.int .i64 (Bt : Int))) from ⟨h.of, by rw [← et]; exact h.cell 17, by rw [← eb]; exact h.cell 18⟩)
  clear ho hok fit ew eh ex ey et eb hr hl hz hk hkk hf1 hf2 hf3 hsl hR
  go_enter Tryz.func19, Tryz.ntmps19
  go_upto_region 1 with fail
  rw [← hW]
  clear hW
  go_wp2_with fail
  refine (HA1.out _ H1.out).mono ?_
  rintro e v ⟨rfl, rfl⟩
  go_wp2_with fail
  refine (HA0.out _ H1.out).mono ?_
  rintro e v ⟨rfl, rfl⟩
  go_upto_region 36 with fail
  clear row1 c0 c1 c9 c10 c17 c18
  go_region_held3 (fun w' => rowOf w' w.heap.size = scrA s ∧ (w'.cell? ⟨w.heap.size, 17, none⟩ = some (.int .i64 (T : Int)) ∧ w'.cell? ⟨w.heap.size, 18, none⟩ = some (.int .i64 (Bt : Int)))) (first | assumption | (exact SOK.out _ RB1.out) | (exact SOK.out _ RS1.out) | (exact SOK.out _ RS2.out) | (exact SOK.out _ RS3.out) | (exact SOK.out _ (RS3.out.row_other (by omega)))) (first
    | (go_at_call 44; (with_reducible refine (l09Shown_any s _).mono ?_); rintro e y1 ⟨rfl, hb1'⟩; have hb1 : Below W1.heap.size W1 y1 := undrew hb1'; have RS1 := hid (RB1.out.below hb1 RB1.out.lt); have Z31 := hid (RZ1.out.below hb1 RZ1.out.lt); have H31 := hid (H1.out.trans (hb1.mono (by omega))); have O31 := hid (O1.out.below (Nat.le_refl _) hb1); have z31 := hb1.size; clear hb1 hb1')
    | (go_at_call 49; (with_reducible refine (HGR.out y1 O31.out).mono ?_); rintro e y2 ⟨A9, c9_, rfl, ho9, hb2⟩; have RS2 := hid (RS1.out.below hb2 RS1.out.lt); have Z32 := hid (Z31.out.below hb2 Z31.out.lt); have H32 := hid (H31.out.trans (hb2.mono (by omega))); have O32 := hid (own_put (gw := shW s) (gh := shH s) O31.out hb2 ho9 (by omega)); have z32 := hb2.size; clear hb2 ho9)
    | (go_at_call 42; (with_reducible refine (l09Put_any s (shW s) (shH s) A9 c9_ R _).mono ?_); rintro e y3 ⟨rfl, hb3⟩; have RS3 := hid (RS2.out.below hb3 RS2.out.lt); have Z33 := hid (Z32.out.below hb3 Z32.out.lt); have H33 := hid (H32.out.trans (hb3.mono (by omega))); have O33 := hid (O32.out.below (Nat.le_refl _) hb3); have rz33 : RowZ y3 (w.heap.size + 1) 31 := RowZ.of Z33.out.row 31 rfl; clear hb3))
  all_goals
    go_wp2_with fail
    refine bodyPost_ret (v := .agg (scrA (putS s (shW s) (shH s) ⟨A9, c9_, R⟩))) (res55 Tryz.results19 _ _ (w.heap.size + 1) _ (by simp) ((Z33.out).row.setRow) rfl) rfl ⟨putS s (shW s) (shH s) ⟨A9, c9_, R⟩, rfl, ?_, ?_, ?_⟩
    · exact OwnS.keepRow (O33.out) (w.heap.size + 1) _ (.inr (RowS.apart (Z33.out) (O33.out)))
    · rw [← HD.out]; exact put_data
    · exact below_setRow (H33.out.mono hB) (by omega) _
theorem plain_109 (s : ScrS) (B : Nat) (A : Option Addr) (n c : Nat) (zs : List Int) (w : World) (hB : B ≤ w.heap.size) (ho : OwnS w B s) (hok : okD s.data = true) (hr : RdI w w.heap.size A zs) (hl : zs.length = n) (hz : argB zs = true) :
    Calls Tryz.prog 19 #[.agg (scrA s), .slice A n c, .int .i64 109] w (AnsQ B (csiP s.data zs 109) w) := by
  have hn8 : n ≤ 8 := by have := (argB_t hz).1; omega
  obtain ⟨W, H, X, Y, T, Bt, L, k1, k0, W1, fit, hsl, ew, eh, ex, ey, et, eb, hk1, hk, hkk, hone0, hW, RB1, RZ1, H1, O1, hs1, row1, rz1, hB1, BL1, HA1, HA0, c0, c1, c9, c10, c17, c18⟩ := plain_pre s B A n c zs w hB ho hok hr hl hz
  obtain ⟨hf1, hf2, hf3⟩ := at_fit fit
  have hls := sh_lenS hok
  have q1 := fit.w1; have q2 := fit.w2; have q3 := fit.h1; have q4 := fit.h2; have q5 := fit.x2; have q6 := fit.y2; have q7 := fit.wh
  obtain ⟨a, ha⟩ : ∃ a, a = sgr ⟨s.fg, s.bg, s.b, s.u, s.t⟩ zs := ⟨_, rfl⟩
  have HD := hid (show ({ s with fg := a.fg, bg := a.bg, b := a.b, u := a.u, t := a.t } : ScrS).data = csiP s.data zs 109 from by rw [ha]; rfl)
  have HS := hid (show Calls Tryz.prog 50 #[.agg #[.int .i64 s.fg, .int .i64 s.bg, .bool s.b, .bool s.u, .bool s.t], .slice A n c] W1 fun e v => e = .returned (.agg #[.int .i64 a.fg, .int .i64 a.bg, .bool a.b, .bool a.u, .bool a.t]) ∧ Below W1.heap.size W1 v from by
    rw [ha]; exact spec_Sgr_any s.fg s.bg s.b s.u s.t A n c zs W1 ((hr.below (Nat.le_refl _) H1.out).more H1.out.size) hl (by omega))
  have k12 : W1.cell? ⟨w.heap.size, 12, none⟩ = some (.int .i64 s.fg) := RB1.out.cell 12
  have k13 : W1.cell? ⟨w.heap.size, 13, none⟩ = some (.int .i64 s.bg) := RB1.out.cell 13
  have k14 : W1.cell? ⟨w.heap.size, 14, none⟩ = some (.bool s.b) := RB1.out.cell 14
  have k15 : W1.cell? ⟨w.heap.size, 15, none⟩ = some (.bool s.u) := RB1.out.cell 15
  have k16 : W1.cell? ⟨w.heap.size, 16, none⟩ = some (.bool s.t) := RB1.out.cell 16
  clear ho hok fit ew eh ex ey et eb hr hl hz hk hkk hf1 hf2 hf3 hsl ha
  go_enter Tryz.func19, Tryz.ntmps19
  go_upto_region 1 with fail
  rw [← hW]
  clear hW
  go_wp2_with fail
  refine (HA1.out _ H1.out).mono ?_
  rintro e v ⟨rfl, rfl⟩
  go_wp2_with fail
  refine (HA0.out _ H1.out).mono ?_
  rintro e v ⟨rfl, rfl⟩
  go_wp2_with fail
  refine HS.out.mono ?_
  rintro e v ⟨rfl, hb⟩
  have RBv := hid (RB1.out.below hb RB1.out.lt)
  have RZv := hid (RZ1.out.below hb RZ1.out.lt)
  have Hv := hid (H1.out.trans (hb.mono (by omega)))
  have Ov := hid (O1.out.below (Nat.le_refl _) hb)
  have vz : w.heap.size + 1 < v.heap.size := RZv.out.lt
  obtain ⟨W2, hW2⟩ : ∃ W2, W2 = (((((v.setCell ⟨w.heap.size, 12, none⟩ (.int .i64 a.fg)).setCell ⟨w.heap.size, 13, none⟩ (.int .i64 a.bg)).setCell ⟨w.heap.size, 14, none⟩ (.bool a.b)).setCell ⟨w.heap.size, 15, none⟩ (.bool a.u)).setCell ⟨w.heap.size, 16, none⟩ (.bool a.t)) := ⟨_, rfl⟩
  have RB2 := hid (show RowS W2 w.heap.size { s with fg := a.fg, bg := a.bg, b := a.b, u := a.u, t := a.t } from by rw [hW2]; exact RowS.s_t (z := a.t) (RowS.s_u (z := a.u) (RowS.s_b (z := a.b) (RowS.s_bg (z := a.bg) (RowS.s_fg (z := a.fg) (RBv.out))))))
  have RZ2 := hid (show RowS W2 (w.heap.size + 1) zeroS from by rw [hW2]; exact (((((RZv.out).other (by simp)).other (by simp)).other (by simp)).other (by simp)).other (by simp))
  have H2 := hid (show Below w.heap.size w W2 from by rw [hW2]; exact (((((Hv.out).setCell (Nat.le_refl _) _).setCell (Nat.le_refl _) _).setCell (Nat.le_refl _) _).setCell (Nat.le_refl _) _).setCell (Nat.le_refl _) _)
  have O2 := hid (show OwnS W2 B { s with fg := a.fg, bg := a.bg, b := a.b, u := a.u, t := a.t } from by
    have h := Ov.out.only (S := fun i => i = w.heap.size) (w' := W2) (by rw [hW2]; exact ((((Only.cell_ (S := fun i => i = w.heap.size) v w.heap.size 12 (.int .i64 a.fg) rfl).trans (Only.cell_ _ w.heap.size 13 (.int .i64 a.bg) rfl)).trans (Only.cell_ _ w.heap.size 14 (.bool a.b) rfl)).trans (Only.cell_ _ w.heap.size 15 (.bool a.u) rfl)).trans (Only.cell_ _ w.heap.size 16 (.bool a.t) rfl)) (fun i hi e => by subst e; exact RBv.out.apart Ov.out hi)
    exact ⟨h.c, h.t, h.r⟩)
  have j12 : v.cell? ⟨w.heap.size, 12, none⟩ = some (.int .i64 s.fg) := RBv.out.cell 12
  have j13 : v.cell? ⟨w.heap.size, 13, none⟩ = some (.int .i64 s.bg) := RBv.out.cell 13
  have j14 : v.cell? ⟨w.heap.size, 14, none⟩ = some (.bool s.b) := RBv.out.cell 14
  have j15 : v.cell? ⟨w.heap.size, 15, none⟩ = some (.bool s.u) := RBv.out.cell 15
  have j16 : v.cell? ⟨w.heap.size, 16, none⟩ = some (.bool s.t) := RBv.out.cell 16
  have hfv := RBv.out.free
  have row2 : rowOf W2 w.heap.size = scrA { s with fg := a.fg, bg := a.bg, b := a.b, u := a.u, t := a.t } := RB2.out.of
  have rz2 : RowZ W2 (w.heap.size + 1) 31 := RowZ.of RZ2.out.row 31 rfl
  have lt2 : w.heap.size < W2.heap.size := RB2.out.lt
  rw [hW2] at row2 rz2 lt2
  clear hb HS row1 rz1 k12 k13 k14 k15 k16 c0 c1 c9 c10 c17 c18
  go_wp2_with fail
  rw [← hW2]
  refine bodyPost_ret (v := .agg (scrA ({ s with fg := a.fg, bg := a.bg, b := a.b, u := a.u, t := a.t }))) (res55 Tryz.results19 _ _ (w.heap.size + 1) _ (by simp) ((RZ2.out).row.setRow) rfl) rfl ⟨{ s with fg := a.fg, bg := a.bg, b := a.b, u := a.u, t := a.t }, rfl, ?_, ?_, ?_⟩
  · exact OwnS.keepRow (O2.out) (w.heap.size + 1) _ (.inr (RowS.apart (RZ2.out) (O2.out)))
  · exact HD.out
  · exact below_setRow (H2.out.mono hB) (by omega) _
theorem plain_114 (s : ScrS) (B : Nat) (A : Option Addr) (n c : Nat) (zs : List Int) (w : World) (hB : B ≤ w.heap.size) (ho : OwnS w B s) (hok : okD s.data = true) (hr : RdI w w.heap.size A zs) (hl : zs.length = n) (hz : argB zs = true) :
    Calls Tryz.prog 19 #[.agg (scrA s), .slice A n c, .int .i64 114] w (AnsQ B (csiP s.data zs 114) w) := by
  have hn8 : n ≤ 8 := by have := (argB_t hz).1; omega
  obtain ⟨W, H, X, Y, T, Bt, L, k1, k0, W1, fit, hsl, ew, eh, ex, ey, et, eb, hk1, hk, hkk, hone0, hW, RB1, RZ1, H1, O1, hs1, row1, rz1, hB1, BL1, HA1, HA0, c0, c1, c9, c10, c17, c18⟩ := plain_pre s B A n c zs w hB ho hok hr hl hz
  obtain ⟨hf1, hf2, hf3⟩ := at_fit fit
  have hls := sh_lenS hok
  have q1 := fit.w1; have q2 := fit.w2; have q3 := fit.h1; have q4 := fit.h2; have q5 := fit.x2; have q6 := fit.y2; have q7 := fit.wh
  have HC := hid (show Calls Tryz.prog 51 #[.agg (scrA s), .slice A n c] W1 (AnsL B (w.heap.size + 1) (csiP s.data zs 114) W1) from by
    have h := l10Region_any s B A n c zs W1 hB1 O1.out hok ((hr.below (Nat.le_refl _) H1.out).more H1.out.size) hl hz
    exact h.mono fun e v h2 => ansL_P hB1 RZ1.out h2)
  clear ho hok fit ew eh ex ey et eb hr hl hz hk hkk hf1 hf2 hf3 hsl
  go_enter Tryz.func19, Tryz.ntmps19
  go_upto_region 1 with fail
  rw [← hW]
  clear hW
  go_wp2_with fail
  refine (HA1.out _ H1.out).mono ?_
  rintro e v ⟨rfl, rfl⟩
  go_wp2_with fail
  refine (HA0.out _ H1.out).mono ?_
  rintro e v ⟨rfl, rfl⟩
  go_wp2_with fail
  refine HC.out.mono ?_
  rintro e v ⟨t, rfl, ht, hd, hb, hz3⟩
  have RZ3 := hid hz3
  have O3 := hid ht
  have D3 := hid hd
  have B3 := hid (BL1.out.trans hb)
  have rz3 : RowZ v (w.heap.size + 1) 31 := RowZ.of RZ3.out.row 31 rfl
  clear ht hd hb hz3 HC row1 rz1 c0 c1 c9 c10 c17 c18
  go_wp2_with fail
  refine bodyPost_ret (v := .agg (scrA (t))) (res55 Tryz.results19 _ _ (w.heap.size + 1) _ (by simp) ((RZ3.out).row.setRow) rfl) rfl ⟨t, rfl, ?_, ?_, ?_⟩
  · exact OwnS.keepRow (O3.out) (w.heap.size + 1) _ (.inr (RowS.apart (RZ3.out) (O3.out)))
  · exact D3.out
  · exact below_setRow (B3.out) (by omega) _
theorem plain_103 (s : ScrS) (B : Nat) (A : Option Addr) (n c : Nat) (zs : List Int) (w : World) (hB : B ≤ w.heap.size) (ho : OwnS w B s) (hok : okD s.data = true) (hr : RdI w w.heap.size A zs) (hl : zs.length = n) (hz : argB zs = true) :
    Calls Tryz.prog 19 #[.agg (scrA s), .slice A n c, .int .i64 103] w (AnsQ B (csiP s.data zs 103) w) := by
  have hn8 : n ≤ 8 := by have := (argB_t hz).1; omega
  obtain ⟨W, H, X, Y, T, Bt, L, k1, k0, W1, fit, hsl, ew, eh, ex, ey, et, eb, hk1, hk, hkk, hone0, hW, RB1, RZ1, H1, O1, hs1, row1, rz1, hB1, BL1, HA1, HA0, c0, c1, c9, c10, c17, c18⟩ := plain_pre s B A n c zs w hB ho hok hr hl hz
  obtain ⟨hf1, hf2, hf3⟩ := at_fit fit
  have hls := sh_lenS hok
  have q1 := fit.w1; have q2 := fit.w2; have q3 := fit.h1; have q4 := fit.h2; have q5 := fit.x2; have q6 := fit.y2; have q7 := fit.wh
  have HC := hid (show Calls Tryz.prog 52 #[.agg (scrA s), .int .i64 k0] W1 (AnsL B (w.heap.size + 1) (csiP s.data zs 103) W1) from by
    have h := l10Tabs_any s B k0 W1 hB1 O1.out hok
    refine (h.mono fun e v h2 => ansL_P hB1 RZ1.out h2).mono fun e v h2 => ?_
    have hd : tabsOff s.data k0 = csiP s.data zs 103 := by rw [hkk]; rfl
    rw [← hd]; exact h2)
  clear ho hok fit ew eh ex ey et eb hr hl hz hk hkk hf1 hf2 hf3 hsl
  go_enter Tryz.func19, Tryz.ntmps19
  go_upto_region 1 with fail
  rw [← hW]
  clear hW
  go_wp2_with fail
  refine (HA1.out _ H1.out).mono ?_
  rintro e v ⟨rfl, rfl⟩
  go_wp2_with fail
  refine (HA0.out _ H1.out).mono ?_
  rintro e v ⟨rfl, rfl⟩
  go_wp2_with fail
  refine HC.out.mono ?_
  rintro e v ⟨t, rfl, ht, hd, hb, hz3⟩
  have RZ3 := hid hz3
  have O3 := hid ht
  have D3 := hid hd
  have B3 := hid (BL1.out.trans hb)
  have rz3 : RowZ v (w.heap.size + 1) 31 := RowZ.of RZ3.out.row 31 rfl
  clear ht hd hb hz3 HC row1 rz1 c0 c1 c9 c10 c17 c18
  go_wp2_with fail
  refine bodyPost_ret (v := .agg (scrA (t))) (res55 Tryz.results19 _ _ (w.heap.size + 1) _ (by simp) ((RZ3.out).row.setRow) rfl) rfl ⟨t, rfl, ?_, ?_, ?_⟩
  · exact OwnS.keepRow (O3.out) (w.heap.size + 1) _ (.inr (RowS.apart (RZ3.out) (O3.out)))
  · exact D3.out
  · exact below_setRow (B3.out) (by omega) _
theorem plain_no (s : ScrS) (B : Nat) (A : Option Addr) (n c : Nat) (zs : List Int) (b : Int) (w : World) (hB : B ≤ w.heap.size) (ho : OwnS w B s) (hok : okD s.data = true) (hr : RdI w w.heap.size A zs) (hl : zs.length = n) (hz : argB zs = true) (h65 : ¬ b = 65) (h66 : ¬ b = 66) (h67 : ¬ b = 67) (h68 : ¬ b = 68) (h71 : ¬ b = 71) (h100 : ¬ b = 100) (h72 : ¬ b = 72) (h102 : ¬ b = 102) (h74 : ¬ b = 74) (h75 : ¬ b = 75) (h88 : ¬ b = 88) (h64 : ¬ b = 64) (h80 : ¬ b = 80) (h76 : ¬ b = 76) (h77 : ¬ b = 77) (h83 : ¬ b = 83) (h84 : ¬ b = 84) (h109 : ¬ b = 109) (h114 : ¬ b = 114) (h103 : ¬ b = 103) :
    Calls Tryz.prog 19 #[.agg (scrA s), .slice A n c, .int .i64 b] w (AnsQ B (csiP s.data zs b) w) := by
  have hn8 : n ≤ 8 := by have := (argB_t hz).1; omega
  obtain ⟨W, H, X, Y, T, Bt, L, k1, k0, W1, fit, hsl, ew, eh, ex, ey, et, eb, hk1, hk, hkk, hone0, hW, RB1, RZ1, H1, O1, hs1, row1, rz1, hB1, BL1, HA1, HA0, c0, c1, c9, c10, c17, c18⟩ := plain_pre s B A n c zs w hB ho hok hr hl hz
  obtain ⟨hf1, hf2, hf3⟩ := at_fit fit
  have hls := sh_lenS hok
  have q1 := fit.w1; have q2 := fit.w2; have q3 := fit.h1; have q4 := fit.h2; have q5 := fit.x2; have q6 := fit.y2; have q7 := fit.wh
  have HD := hid (show s.data = csiP s.data zs b from by unfold csiP; rw [if_neg h65, if_neg h66, if_neg h67, if_neg h68, if_neg h71, if_neg h100, if_neg (by omega), if_neg h74, if_neg h75, if_neg h88, if_neg h64, if_neg h80, if_neg h76, if_neg h77, if_neg h83, if_neg h84, if_neg h109, if_neg h114, if_neg h103])
  clear ho hok fit ew eh ex ey et eb hr hl hz hk hkk hf1 hf2 hf3 hsl
  go_enter Tryz.func19, Tryz.ntmps19
  go_upto_region 1 with fail
  rw [← hW]
  clear hW
  go_wp2_with fail
  refine (HA1.out _ H1.out).mono ?_
  rintro e v ⟨rfl, rfl⟩
  go_wp2_with fail
  refine (HA0.out _ H1.out).mono ?_
  rintro e v ⟨rfl, rfl⟩
  go_wp2_with fail
  refine bodyPost_ret (v := .agg (scrA (s))) (res55 Tryz.results19 _ _ (w.heap.size + 1) _ (by simp) ((RZ1.out).row.setRow) rfl) rfl ⟨s, rfl, ?_, ?_, ?_⟩
  · exact OwnS.keepRow (O1.out) (w.heap.size + 1) _ (.inr (RowS.apart (RZ1.out) (O1.out)))
  · exact HD.out
  · exact below_setRow (BL1.out) (by omega) _
theorem l10Plain_any (s : ScrS) (B : Nat) (A : Option Addr) (n c : Nat) (zs : List Int) (b : Int) (w : World) (hB : B ≤ w.heap.size) (ho : OwnS w B s) (hok : okD s.data = true) (hr : RdI w w.heap.size A zs) (hl : zs.length = n) (hz : argB zs = true) :
    Calls Tryz.prog 19 #[.agg (scrA s), .slice A n c, .int .i64 b] w (AnsQ B (csiP s.data zs b) w) := by
  by_cases h65 : b = 65
  · subst h65; exact plain_65 s B A n c zs w hB ho hok hr hl hz
  by_cases h66 : b = 66
  · subst h66; exact plain_66 s B A n c zs w hB ho hok hr hl hz
  by_cases h67 : b = 67
  · subst h67; exact plain_67 s B A n c zs w hB ho hok hr hl hz
  by_cases h68 : b = 68
  · subst h68; exact plain_68 s B A n c zs w hB ho hok hr hl hz
  by_cases h71 : b = 71
  · subst h71; exact plain_71 s B A n c zs w hB ho hok hr hl hz
  by_cases h100 : b = 100
  · subst h100; exact plain_100 s B A n c zs w hB ho hok hr hl hz
  by_cases h72 : b = 72
  · subst h72; exact plain_72 s B A n c zs w hB ho hok hr hl hz
  by_cases h102 : b = 102
  · subst h102; exact plain_102 s B A n c zs w hB ho hok hr hl hz
  by_cases h74 : b = 74
  · subst h74; exact plain_74 s B A n c zs w hB ho hok hr hl hz
  by_cases h75 : b = 75
  · subst h75; exact plain_75 s B A n c zs w hB ho hok hr hl hz
  by_cases h88 : b = 88
  · subst h88; exact plain_88 s B A n c zs w hB ho hok hr hl hz
  by_cases h64 : b = 64
  · subst h64; exact plain_64 s B A n c zs w hB ho hok hr hl hz
  by_cases h80 : b = 80
  · subst h80; exact plain_80 s B A n c zs w hB ho hok hr hl hz
  by_cases h76 : b = 76
  · subst h76; exact plain_76 s B A n c zs w hB ho hok hr hl hz
  by_cases h77 : b = 77
  · subst h77; exact plain_77 s B A n c zs w hB ho hok hr hl hz
  by_cases h83 : b = 83
  · subst h83; exact plain_83 s B A n c zs w hB ho hok hr hl hz
  by_cases h84 : b = 84
  · subst h84; exact plain_84 s B A n c zs w hB ho hok hr hl hz
  by_cases h109 : b = 109
  · subst h109; exact plain_109 s B A n c zs w hB ho hok hr hl hz
  by_cases h114 : b = 114
  · subst h114; exact plain_114 s B A n c zs w hB ho hok hr hl hz
  by_cases h103 : b = 103
  · subst h103; exact plain_103 s B A n c zs w hB ho hok hr hl hz
  exact plain_no s B A n c zs b w hB ho hok hr hl hz h65 h66 h67 h68 h71 h100 h72 h102 h74 h75 h88 h64 h80 h76 h77 h83 h84 h109 h114 h103
end Go.Proofs.YtgnpgkkjcloghaaGreat.Sc
