/- What the model makes of a control sequence's arguments, of its region, of its lines. -/
import Derived.Test.YtgnpgkkjcloghaaGreatCsE
import Derived.Test.YtgnpgkkjcloghaaGreatScEscV
set_option maxRecDepth 100000
set_option maxHeartbeats 3200000
set_option linter.unusedVariables false
namespace Go.Proofs.YtgnpgkkjcloghaaGreat.Sc
open Lib
open Go.RowKit Bytes Rows_ RowK Gr DOk Opq Attr
attribute [local go_sem ↓] Sc.exec_storeS Sc.exec_loadS
attribute [local go_sem] rowOf_drew blkOf_ptr isHead_ptr aggN_agg setRow_alloc rowZ_at rowZ_past scrA_size one_scr rowOf_alloc_at rowOf_alloc_past
attribute [local go_sem] sa_w sa_h sa_mw sa_mh sa_M sa_aw sa_ah sa_A sa_onAlt sa_x sa_y sa_wrap sa_fg sa_bg sa_b sa_u sa_t sa_top sa_bot sa_noWrap sa_hide sa_sx sa_sy sa_sfg sa_sbg sa_sb sa_su sa_st sa_tabs sa_lim sa_rows
attribute [local go_sem] scr_at0 scr_at1 scr_at2 scr_at3 scr_at4 scr_at5 scr_at6 scr_at7 scr_at8 scr_at9 scr_at10 scr_at11 scr_at12 scr_at13 scr_at14 scr_at15 scr_at16 scr_at17 scr_at18 scr_at19 scr_at20 scr_at21 scr_at22 scr_at23 scr_at24 scr_at25 scr_at26 scr_at27 scr_at28 scr_at29 scr_at30
def AnsP (B : Nat) (d : ScrD) (w : World) (e : Ending) (w' : World) : Prop := ∃ s, e = .returned (.agg (scrA s)) ∧ OwnS w' B s ∧ s.data = d ∧ Below w.heap.size w w'
theorem sh_lenS {s : ScrS} (h : okD s.data = true) : (shC s).cs.length ≤ 1048576 := by
  have h1 := ok_size h; rw [sh_data]; unfold shD; unfold szD at h1; split <;> omega
theorem szS_ok {s : ScrS} (h : okD s.data = true) : szS s ≤ 1048576 := by rw [szS_data]; have := ok_size h; omega
theorem own_sh {W : World} {B : Nat} {s : ScrS} (h : OwnS W B s) : OwnC W B (shC s).A (shC s).cs.length (shC s).c (shC s).cs := by
  unfold shC
  cases s.onAlt
  · exact h.m
  · exact h.a
theorem l10Arg_any (A : Option Addr) (n c : Nat) (zs : List Int) (i : Nat) (o : Int) (w : World) (hr : RdI w w.heap.size A zs) (hl : zs.length = n) (hn : n ≤ 8) (hi : i ≤ 1) :
    Calls Tryz.prog 39 #[.slice A n c, .int .i64 (i : Int), .int .i64 o] w fun e w' => e = .returned (.int .i64 (argV zs i o)) ∧ w = w' := by
  by_cases hlt : i < n
  · have hlf : i < zs.length := by omega
    obtain ⟨b, off, rfl, hB, hc⟩ := hr.at_ hlf
    have hlt' : (i : Int) < (n : Int) := by omega
    have hge : ¬ (n : Int) ≤ (i : Int) := by omega
    have HV := hid (show argV zs i o = if zs[i] = 0 then o else zs[i] by unfold argV; rw [List.getElem?_eq_getElem hlf])
    generalize zs[i] = z at *
    clear hr hl hlf
    by_cases hz : z = 0
    · subst hz
      have HE := hid (show argV zs i o = o by rw [HV.out, if_pos rfl])
      clear HV
      go_enter Tryz.func39, Tryz.ntmps39
      go_wp2_with fail
      go_ret
      exact ⟨ret_int HE.out.symm, rfl⟩
    · have HE := hid (show argV zs i o = z by rw [HV.out, if_neg hz])
      clear HV
      go_enter Tryz.func39, Tryz.ntmps39
      go_wp2_with fail
      go_ret
      exact ⟨ret_int HE.out.symm, rfl⟩
  · have hge : (n : Int) ≤ (i : Int) := by omega
    have HE := hid (show argV zs i o = o by unfold argV; rw [List.getElem?_eq_none (by omega)])
    clear hr hl
    go_enter Tryz.func39, Tryz.ntmps39
    go_wp2_with fail
    go_ret
    exact ⟨ret_int HE.out.symm, rfl⟩
theorem l10Region_any (s : ScrS) (B : Nat) (A : Option Addr) (n c : Nat) (zs : List Int) (w : World) (hB : B ≤ w.heap.size) (ho : OwnS w B s) (hok : okD s.data = true) (hr : RdI w w.heap.size A zs) (hl : zs.length = n) (hz : argB zs = true) :
    Calls Tryz.prog 51 #[.agg (scrA s), .slice A n c] w (AnsP B (regionD s.data zs) w) := by
  have hn8 : n ≤ 8 := by have := (argB_t hz).1; omega
  obtain ⟨W, H, X, Y, T, Bt, L, fit⟩ := ok_fit hok
  have eh : s.h = (H : Int) := fit.h
  have q3 := fit.h1; have q4 := fit.h2
  have hk1 := argV_bd hz 0 (o := 1) (lo := 1) (hi := 9999) (by omega) (by omega) (by omega) (by omega)
  have hk2 := argV_bd hz 1 (o := (H : Int)) (lo := 1) (hi := 9999) (by omega) (by omega) (by omega) (by omega)
  obtain ⟨k1, hk⟩ : ∃ k1, k1 = argV zs 0 1 := ⟨_, rfl⟩
  obtain ⟨k2, hkk⟩ : ∃ k2, k2 = argV zs 1 (H : Int) := ⟨_, rfl⟩
  rw [← hk] at hk1
  rw [← hkk] at hk2
  obtain ⟨a1, ha1⟩ : ∃ a1, a1 = k1 - 1 := ⟨_, rfl⟩
  obtain ⟨a2, ha2⟩ : ∃ a2, a2 = k2 - 1 := ⟨_, rfl⟩
  have HA0 := hid (fun V (hb : Below w.heap.size w V) => show Calls Tryz.prog 39 #[.slice A n c, .int .i64 0, .int .i64 1] V fun e w' => e = .returned (.int .i64 k1) ∧ V = w' from by rw [hk]; exact l10Arg_any A n c zs 0 1 V ((hr.below (Nat.le_refl _) hb).more hb.size) hl hn8 (by omega))
  have HA1 := hid (fun V (hb : Below w.heap.size w V) => show Calls Tryz.prog 39 #[.slice A n c, .int .i64 1, .int .i64 (H : Int)] V fun e w' => e = .returned (.int .i64 k2) ∧ V = w' from by rw [hkk]; exact l10Arg_any A n c zs 1 (H : Int) V ((hr.below (Nat.le_refl _) hb).more hb.size) hl hn8 (by omega))
  have e0 : IntKind.i64.wrap (k1 - 1) = a1 := by rw [ha1]; exact IntWalk.i64_in _ (by omega)
  have e1 : IntKind.i64.wrap (k2 - 1) = a2 := by rw [ha2]; exact IntWalk.i64_in _ (by omega)
  have hRD : regionD s.data zs = if a2 ≤ a1 ∨ (H : Int) ≤ a2 then s.data else edgeD s.data a1 a2 := by
    unfold regionD
    rw [show s.data.h = (H : Int) from fit.h, ← hk, ← hkk, ← ha1, ← ha2]
  have hone0 : One #[.int .i64 0, .int .i64 0, .int .i64 0, .int .i64 0, .slice none 0 0, .int .i64 0, .int .i64 0, .slice none 0 0, .bool false, .int .i64 0, .int .i64 0, .bool false, .int .i64 0, .int .i64 0, .bool false, .bool false, .bool false, .int .i64 0, .int .i64 0, .bool false, .bool false, .int .i64 0, .int .i64 0, .int .i64 0, .int .i64 0, .bool false, .bool false, .bool false, .slice none 0 0, .int .i64 0, .slice none 0 0] := one_scr zeroS
  obtain ⟨W1, hW⟩ : ∃ W, W = (w.alloc (.cells (scrA s) 38)).alloc (.cells #[.int .i64 0, .int .i64 0, .int .i64 0, .int .i64 0, .slice none 0 0, .int .i64 0, .int .i64 0, .slice none 0 0, .bool false, .int .i64 0, .int .i64 0, .bool false, .int .i64 0, .int .i64 0, .bool false, .bool false, .bool false, .int .i64 0, .int .i64 0, .bool false, .bool false, .int .i64 0, .int .i64 0, .int .i64 0, .int .i64 0, .bool false, .bool false, .bool false, .slice none 0 0, .int .i64 0, .slice none 0 0] 38) := ⟨_, rfl⟩
  have RB1 := hid (show RowS W1 w.heap.size s from by rw [hW]; exact (RowS.new w s).alloc _)
  have RZ1 := hid (show RowS W1 (w.heap.size + 1) zeroS from by
    rw [hW]
    have h := RowS.new (w.alloc (.cells (scrA s) 38)) zeroS
    rw [World.size_alloc] at h; exact h)
  have hal0 : Below w.heap.size w W1 := by rw [hW]; exact ((Below.refl w.heap.size w).alloc (Nat.le_refl _) _).alloc (by simp) _
  have H1 := hid hal0
  have O1 := hid (ho.below (Nat.le_refl _) hal0)
  have hs1 : w.heap.size + 1 < W1.heap.size := RZ1.out.lt
  have row1 : rowOf W1 w.heap.size = scrA s := RB1.out.of
  have rz1 : RowZ W1 (w.heap.size + 1) 31 := RowZ.of RZ1.out.row 31 rfl
  clear hal0
  have a1_ : W1.cell? ⟨w.heap.size, 1, none⟩ = some (.int .i64 (H : Int)) := by rw [← eh]; exact RB1.out.cell 1
  by_cases c1 : a2 ≤ a1
  · have HD := hid (show s.data = regionD s.data zs from by rw [hRD, if_pos (Or.inl c1)])
    clear hRD hk hkk ha1 ha2 hr hl hz fit eh ho hok
    go_enter Tryz.func51, Tryz.ntmps51
    go_upto_region 1 with fail
    rw [← hW]
    clear hW
    go_wp2_with fail
    refine (HA0.out _ H1.out).mono ?_
    rintro e v ⟨rfl, rfl⟩
    go_wp2_with fail
    refine (HA1.out _ H1.out).mono ?_
    rintro e v ⟨rfl, rfl⟩
    go_wp2_with fail
    refine bodyPost_ret (v := .agg (scrA s)) (res55 Tryz.results51 _ _ (w.heap.size + 1) _ (by simp) ((RZ1.out).row.setRow) rfl) rfl ⟨s, rfl, ?_, ?_, ?_⟩
    · exact OwnS.keepRow (O1.out) (w.heap.size + 1) _ (.inr (RowS.apart (RZ1.out) (O1.out)))
    · exact HD.out
    · exact below_setRow (H1.out) (by omega) _
  by_cases c2 : (H : Int) ≤ a2
  · have HD := hid (show s.data = regionD s.data zs from by rw [hRD, if_pos (Or.inr c2)])
    clear hRD hk hkk ha1 ha2 hr hl hz fit eh ho hok
    go_enter Tryz.func51, Tryz.ntmps51
    go_upto_region 1 with fail
    rw [← hW]
    clear hW
    go_wp2_with fail
    refine (HA0.out _ H1.out).mono ?_
    rintro e v ⟨rfl, rfl⟩
    go_wp2_with fail
    refine (HA1.out _ H1.out).mono ?_
    rintro e v ⟨rfl, rfl⟩
    go_wp2_with fail
    refine bodyPost_ret (v := .agg (scrA s)) (res55 Tryz.results51 _ _ (w.heap.size + 1) _ (by simp) ((RZ1.out).row.setRow) rfl) rfl ⟨s, rfl, ?_, ?_, ?_⟩
    · exact OwnS.keepRow (O1.out) (w.heap.size + 1) _ (.inr (RowS.apart (RZ1.out) (O1.out)))
    · exact HD.out
    · exact below_setRow (H1.out) (by omega) _
  · have hokE : okD { s with top := a1, bot := a2 }.data = true := by
      obtain ⟨c1', c3', ⟨_, _, _, _, b1', b2', b3'⟩, h4'⟩ := okD_iff.1 hok
      exact okD_t ⟨c1', c3', ⟨by show 0 ≤ a1; omega, by show a2 < s.h; omega, by show a1 ≤ a2; omega, (fun e => by have e : a1 = a2 := e; omega), b1', b2', b3'⟩, h4'⟩
    have HD := hid (show goD { s with top := a1, bot := a2 }.data 0 0 = regionD s.data zs from by rw [hRD, if_neg (by omega)]; rfl)
    obtain ⟨W2, hW2⟩ : ∃ W2, W2 = (W1.setCell ⟨w.heap.size, 17, none⟩ (.int .i64 a1)).setCell ⟨w.heap.size, 18, none⟩ (.int .i64 a2) := ⟨_, rfl⟩
    have RB2 := hid (show RowS W2 w.heap.size { s with top := a1, bot := a2 } from by rw [hW2]; exact RowS.s_bot (z := a2) (RowS.s_top (z := a1) RB1.out))
    have RZ2 := hid (show RowS W2 (w.heap.size + 1) zeroS from by rw [hW2]; exact (RZ1.out.other (by simp)).other (by simp))
    have H2 := hid (show Below w.heap.size w W2 from by rw [hW2]; exact (H1.out.setCell (Nat.le_refl _) _).setCell (Nat.le_refl _) _)
    have O2 := hid (show OwnS W2 B { s with top := a1, bot := a2 } from by
      have h := O1.out.only (S := fun i => i = w.heap.size) (w' := W2) (by rw [hW2]; exact (Only.cell_ (S := fun i => i = w.heap.size) W1 w.heap.size 17 (.int .i64 a1) rfl).trans (Only.cell_ _ w.heap.size 18 (.int .i64 a2) rfl)) (fun i hi e => by subst e; exact RB1.out.apart O1.out hi)
      exact ⟨h.c, h.t, h.r⟩)
    have hs2 : W2.heap.size = W1.heap.size := by rw [hW2]; simp
    have HGO := hid (spec_ScrGo_any { s with top := a1, bot := a2 } W2 B 0 0 O2.out (szS_ok hokE))
    have HOF := hid (okF_yes (f := fun d => goD d 0 0) hokE)
    have hf := RB1.out.free
    have j17 : W1.cell? ⟨w.heap.size, 17, none⟩ = some (.int .i64 s.top) := RB1.out.cell 17
    have j18 : W1.cell? ⟨w.heap.size, 18, none⟩ = some (.int .i64 s.bot) := RB1.out.cell 18
    have row2 : rowOf W2 w.heap.size = scrA { s with top := a1, bot := a2 } := RB2.out.of
    rw [hW2] at row2
    clear hRD hk hkk ha1 ha2 hr hl hz fit eh ho hok hokE
    go_enter Tryz.func51, Tryz.ntmps51
    go_upto_region 1 with fail
    rw [← hW]
    clear hW
    go_wp2_with fail
    refine (HA0.out _ H1.out).mono ?_
    rintro e v ⟨rfl, rfl⟩
    go_wp2_with fail
    refine (HA1.out _ H1.out).mono ?_
    rintro e v ⟨rfl, rfl⟩
    go_wp2_with fail
    rw [← hW2]
    refine HGO.out.mono ?_
    rintro e v ⟨t, rfl, ht, hd, hb⟩
    have RZ3 := hid (RZ2.out.below hb RZ2.out.lt)
    have H3 := hid (H2.out.trans (hb.mono H2.out.size))
    have O3 := hid (ht.more (by omega : B ≤ W2.heap.size))
    have D3 := hid hd
    have rz3 : RowZ v (w.heap.size + 1) 31 := RowZ.of RZ3.out.row 31 rfl
    clear ht hd hb HGO row2 row1 rz1 j17 j18 hf a1_
    go_wp2_with fail
    refine bodyPost_ret (v := .agg (scrA t)) (res55 Tryz.results51 _ _ (w.heap.size + 1) _ (by simp) ((RZ3.out).row.setRow) rfl) rfl ⟨t, rfl, ?_, ?_, ?_⟩
    · exact OwnS.keepRow (O3.out) (w.heap.size + 1) _ (.inr (RowS.apart (RZ3.out) (O3.out)))
    · rw [D3.out, HOF.out]; exact HD.out
    · exact below_setRow (H3.out) (by omega) _
theorem roll_yb {s : ScrS} (h : okD s.data = true) (hy : s.y ≤ s.bot) (n : Int) : rollT (shW s) (shH s) (shC s).cs s.y s.bot n = (shW s, shH s, rollC s.data s.y s.bot n) := by
  obtain ⟨e1, e2, g⟩ := sh_ok h
  obtain ⟨r1, r2, r3, _⟩ := (okD_iff.1 h).2.2.1
  obtain ⟨W, H, X, Y, T, Bt, L, fit⟩ := ok_fit h
  have ey : s.y = (Y : Int) := fit.y
  have hi : inR (shH s) s.y s.bot = true := decide_eq_true ⟨by omega, hy, by rw [e2]; exact r2⟩
  unfold rollT
  rw [g, hi, Bool.and_self, if_pos rfl, e1, e2, sh_data]; rfl
theorem l10Lines_any (s : ScrS) (B : Nat) (n : Int) (w : World) (hB : B ≤ w.heap.size) (ho : OwnS w B s) (hok : okD s.data = true) :
    Calls Tryz.prog 47 #[.agg (scrA s), .int .i64 n] w (AnsP B (linesD s.data n) w) := by
  obtain ⟨W, H, X, Y, T, Bt, L, fit⟩ := ok_fit hok
  have ey : s.y = (Y : Int) := fit.y
  have et : s.top = (T : Int) := fit.top
  have eb : s.bot = (Bt : Int) := fit.bot
  have hone0 : One #[.int .i64 0, .int .i64 0, .int .i64 0, .int .i64 0, .slice none 0 0, .int .i64 0, .int .i64 0, .slice none 0 0, .bool false, .int .i64 0, .int .i64 0, .bool false, .int .i64 0, .int .i64 0, .bool false, .bool false, .bool false, .int .i64 0, .int .i64 0, .bool false, .bool false, .int .i64 0, .int .i64 0, .int .i64 0, .int .i64 0, .bool false, .bool false, .bool false, .slice none 0 0, .int .i64 0, .slice none 0 0] := one_scr zeroS
  obtain ⟨W1, hW⟩ : ∃ W, W = (w.alloc (.cells (scrA s) 38)).alloc (.cells #[.int .i64 0, .int .i64 0, .int .i64 0, .int .i64 0, .slice none 0 0, .int .i64 0, .int .i64 0, .slice none 0 0, .bool false, .int .i64 0, .int .i64 0, .bool false, .int .i64 0, .int .i64 0, .bool false, .bool false, .bool false, .int .i64 0, .int .i64 0, .bool false, .bool false, .int .i64 0, .int .i64 0, .int .i64 0, .int .i64 0, .bool false, .bool false, .bool false, .slice none 0 0, .int .i64 0, .slice none 0 0] 38) := ⟨_, rfl⟩
  have RB1 := hid (show RowS W1 w.heap.size s from by rw [hW]; exact (RowS.new w s).alloc _)
  have RZ1 := hid (show RowS W1 (w.heap.size + 1) zeroS from by
    rw [hW]
    have h := RowS.new (w.alloc (.cells (scrA s) 38)) zeroS
    rw [World.size_alloc] at h; exact h)
  have hal0 : Below w.heap.size w W1 := by rw [hW]; exact ((Below.refl w.heap.size w).alloc (Nat.le_refl _) _).alloc (by simp) _
  have H1 := hid hal0
  have O1 := hid (ho.below (Nat.le_refl _) hal0)
  have hs1 : w.heap.size + 1 < W1.heap.size := RZ1.out.lt
  have row1 : rowOf W1 w.heap.size = scrA s := RB1.out.of
  have rz1 : RowZ W1 (w.heap.size + 1) 31 := RowZ.of RZ1.out.row 31 rfl
  clear hal0
  have a10 : W1.cell? ⟨w.heap.size, 10, none⟩ = some (.int .i64 (Y : Int)) := by rw [← ey]; exact RB1.out.cell 10
  have a17 : W1.cell? ⟨w.heap.size, 17, none⟩ = some (.int .i64 (T : Int)) := by rw [← et]; exact RB1.out.cell 17
  have a18 : W1.cell? ⟨w.heap.size, 18, none⟩ = some (.int .i64 (Bt : Int)) := by rw [← eb]; exact RB1.out.cell 18
  by_cases hT : (Y : Int) < (T : Int)
  · have HD := hid (show s.data = linesD s.data n from by unfold linesD; rw [if_pos (Or.inl (by rw [fit.y, fit.top]; exact hT))])
    clear fit ey et eb ho hok
    go_enter Tryz.func47, Tryz.ntmps47
    go_upto_region 1 with fail
    rw [← hW]
    clear hW
    go_wp2_with fail
    refine bodyPost_ret (v := .agg (scrA s)) (res55 Tryz.results47 _ _ (w.heap.size + 1) _ (by simp) ((RZ1.out).row.setRow) rfl) rfl ⟨s, rfl, ?_, ?_, ?_⟩
    · exact OwnS.keepRow (O1.out) (w.heap.size + 1) _ (.inr (RowS.apart (RZ1.out) (O1.out)))
    · exact HD.out
    · exact below_setRow (H1.out) (by omega) _
  by_cases hb : (Bt : Int) < (Y : Int)
  · have HD := hid (show s.data = linesD s.data n from by unfold linesD; rw [if_pos (Or.inr (by rw [fit.y, fit.bot]; exact hb))])
    clear fit ey et eb ho hok
    go_enter Tryz.func47, Tryz.ntmps47
    go_upto_region 1 with fail
    rw [← hW]
    clear hW
    go_wp2_with fail
    refine bodyPost_ret (v := .agg (scrA s)) (res55 Tryz.results47 _ _ (w.heap.size + 1) _ (by simp) ((RZ1.out).row.setRow) rfl) rfl ⟨s, rfl, ?_, ?_, ?_⟩
    · exact OwnS.keepRow (O1.out) (w.heap.size + 1) _ (.inr (RowS.apart (RZ1.out) (O1.out)))
    · exact HD.out
    · exact below_setRow (H1.out) (by omega) _
  · obtain ⟨R, hR⟩ : ∃ R, R = rollC s.data s.y s.bot n := ⟨_, rfl⟩
    have HRL := hid (roll_yb hok (by omega) n)
    have hls := sh_lenS hok
    have HD := hid (show x0W (putD s.data R) = linesD s.data n from by unfold linesD; rw [if_neg (by rw [fit.y, fit.top, fit.bot]; omega), hR]; rfl)
    have HGR := hid (show ∀ (W0 : World), OwnS W0 B s → Calls Tryz.prog 49 #[.agg #[.int .i64 (shW s), .int .i64 (shH s), .slice (shC s).A (shC s).cs.length (shC s).c], .int .i64 (Y : Int), .int .i64 (Bt : Int), .int .i64 n] W0 (fun e w' => ∃ A c, e = .returned (.agg #[.int .i64 (shW s), .int .i64 (shH s), .slice A R.length c]) ∧ OwnC w' W0.heap.size A R.length c R ∧ Below W0.heap.size W0 w') from fun W0 h => by
      have h2 := spec_GridRoll_own (shW s) (shH s) s.y s.bot n (own_sh h) hls
      rw [HRL.out, ← hR, ey, eb] at h2
      exact h2)
    have hBW : B ≤ W1.heap.size := by omega
    have HEY := hid ey
    have HEB := hid eb
    clear fit ey et eb ho hok hR hls
    go_enter Tryz.func47, Tryz.ntmps47
    go_upto_region 1 with fail
    rw [← hW]
    clear hW
    go_upto_region 3 with fail
    have SOK := hid (fun w' (h : RowS w' w.heap.size s) => show rowOf w' w.heap.size = scrA s ∧ w'.cell? ⟨w.heap.size, 10, none⟩ = some (.int .i64 (Y : Int)) ∧ w'.cell? ⟨w.heap.size, 18, none⟩ = some (.int .i64 (Bt : Int)) from ⟨h.of, by rw [← HEY.out]; exact h.cell 10, by rw [← HEB.out]; exact h.cell 18⟩)
    clear a17 hT hb
    refine wp_region_noPanic ?_
    refine HeldF.wp_region_F (lst := 10) (S := fun w' => rowOf w' w.heap.size = scrA s ∧ w'.cell? ⟨w.heap.size, 10, none⟩ = some (.int .i64 (Y : Int)) ∧ w'.cell? ⟨w.heap.size, 18, none⟩ = some (.int .i64 (Bt : Int))) (by kernel_rfl) (SOK.out _ RB1.out.drew) (fun hHeld => ?_)
    refine HeldF.wpAnyF_take (i := 0) (oi := { dst := some 18, op := Op.load 38 (Operand.tmp 2), type := 38, pos := "l10_seq.go:119", after := #[], guard := none }) (v := ?v0) rfl (by kernel_rfl) (by kernel_rfl) (by kernel_rfl) (fun _ _ _ h => h) (by kernel_rfl) (Or.inl ⟨by rfl, ?hy0⟩) (by assumption) ?rest0
    case hy0 => (intro w hSw; obtain ⟨hs0, hs1, hs2⟩ := hSw; go_simp; (try with_reducible rfl))
    (try simp only [Act.put, List.setIfInBounds_toArray, List.set_cons_zero, List.set_cons_succ])
    refine HeldF.wpAnyF_take (i := 1) (oi := { dst := some 19, op := Op.load 38 (Operand.tmp 2), type := 38, pos := "l10_seq.go:119", after := #[], guard := none }) (v := ?v1) rfl (by kernel_rfl) (by kernel_rfl) (by kernel_rfl) (fun _ _ _ h => h) (by kernel_rfl) (Or.inl ⟨by rfl, ?hy1⟩) (by assumption) ?rest1
    case hy1 => (intro w hSw; obtain ⟨hs0, hs1, hs2⟩ := hSw; go_simp; (try with_reducible rfl))
    (try simp only [Act.put, List.setIfInBounds_toArray, List.set_cons_zero, List.set_cons_succ])
    refine HeldF.wpAnyF_take (i := 3) (oi := { dst := some 21, op := Op.fieldAddr 38 (Operand.tmp 2) 6, type := 0, pos := "l10_seq.go:119", after := #[], guard := none }) (v := ?v3) rfl (by kernel_rfl) (by kernel_rfl) (by kernel_rfl) (fun _ _ _ h => h) (by kernel_rfl) (Or.inl ⟨by rfl, ?hy3⟩) (by assumption) ?rest3
    case hy3 => (intro w hSw; obtain ⟨hs0, hs1, hs2⟩ := hSw; go_simp; (try with_reducible rfl))
    (try simp only [Act.put, List.setIfInBounds_toArray, List.set_cons_zero, List.set_cons_succ])
    refine HeldF.wpAnyF_take (i := 4) (oi := { dst := some 22, op := Op.load 3 (Operand.tmp 21), type := 3, pos := "l10_seq.go:119", after := #[{ on := 3, ground := Ground.data }], guard := none }) (v := ?v4) rfl (by kernel_rfl) (by kernel_rfl) (by kernel_rfl) (fun _ _ _ h => h) (by kernel_rfl) (Or.inl ⟨by rfl, ?hy4⟩) (by assumption) ?rest4
    case hy4 => (intro w hSw; obtain ⟨hs0, hs1, hs2⟩ := hSw; go_simp; (try with_reducible rfl))
    (try simp only [Act.put, List.setIfInBounds_toArray, List.set_cons_zero, List.set_cons_succ])
    refine HeldF.wpAnyF_take (i := 5) (oi := { dst := some 23, op := Op.fieldAddr 38 (Operand.tmp 2) 10, type := 0, pos := "l10_seq.go:119", after := #[], guard := none }) (v := ?v5) rfl (by kernel_rfl) (by kernel_rfl) (by kernel_rfl) (fun _ _ _ h => h) (by kernel_rfl) (Or.inl ⟨by rfl, ?hy5⟩) (by assumption) ?rest5
    case hy5 => (intro w hSw; obtain ⟨hs0, hs1, hs2⟩ := hSw; go_simp; (try with_reducible rfl))
    (try simp only [Act.put, List.setIfInBounds_toArray, List.set_cons_zero, List.set_cons_succ])
    refine HeldF.wpAnyF_take (i := 6) (oi := { dst := some 24, op := Op.load 3 (Operand.tmp 23), type := 3, pos := "l10_seq.go:119", after := #[{ on := 5, ground := Ground.data }], guard := none }) (v := ?v6) rfl (by kernel_rfl) (by kernel_rfl) (by kernel_rfl) (fun _ _ _ h => h) (by kernel_rfl) (Or.inl ⟨by rfl, ?hy6⟩) (by assumption) ?rest6
    case hy6 => (intro w hSw; obtain ⟨hs0, hs1, hs2⟩ := hSw; go_simp; (try with_reducible rfl))
    (try simp only [Act.put, List.setIfInBounds_toArray, List.set_cons_zero, List.set_cons_succ])
    refine HeldF.wpAnyF_take (i := 7) (oi := { dst := some 25, op := Op.move (Operand.tmp 1), type := 3, pos := "l10_seq.go:119", after := #[], guard := none }) (v := ?v7) rfl (by kernel_rfl) (by kernel_rfl) (by kernel_rfl) (fun _ _ _ h => h) (by kernel_rfl) (Or.inl ⟨by rfl, ?hy7⟩) (by assumption) ?rest7
    case hy7 => (intro w hSw; obtain ⟨hs0, hs1, hs2⟩ := hSw; go_simp; (try with_reducible rfl))
    (try simp only [Act.put, List.setIfInBounds_toArray, List.set_cons_zero, List.set_cons_succ])
    refine HeldF.wpAnyF_one (k := 2) (o := { dst := some 20, op := Op.call { callee := Callee.value (Operand.func 44), args := #[Operand.tmp 19], argTypes := #[38] }, type := 34, pos := "l10_seq.go:119", after := #[{ on := 1, ground := Ground.data }], guard := none }) (by kernel_rfl) rfl (fun K hK => ?_)
    go_simp
    go_at_call 44
    refine (l09Shown_any s _).mono ?_
    rintro e y1 ⟨rfl, hb1'⟩
    have hb1 : Below W1.heap.size W1 y1 := undrew hb1'
    have RS1 := hid (RB1.out.below hb1 RB1.out.lt)
    have Z31 := hid (RZ1.out.below hb1 RZ1.out.lt)
    have H31 := hid (H1.out.trans (hb1.mono (by omega)))
    have O31 := hid (O1.out.below (Nat.le_refl _) hb1)
    have z31 := hb1.size
    clear hb1 hb1'
    go_simp
    refine hK.out _ _ (fun _ => SOK.out _ RS1.out) (fun hH => ?_)
    clear hK K
    clear hHeld
    have hHeld := hH (by decide)
    clear hH
    (try simp only [Act.put, List.setIfInBounds_toArray, List.set_cons_zero, List.set_cons_succ])
    refine HeldF.wpAnyF_one (k := 8) (o := { dst := some 26, op := Op.call { callee := Callee.value (Operand.func 49), args := #[Operand.tmp 20, Operand.tmp 22, Operand.tmp 24, Operand.tmp 25], argTypes := #[34, 3, 3, 3] }, type := 34, pos := "l10_seq.go:119", after := #[{ on := 2, ground := Ground.data }, { on := 4, ground := Ground.data }, { on := 6, ground := Ground.data }, { on := 7, ground := Ground.data }, { on := 2, ground := Ground.chain }], guard := none }) (by kernel_rfl) rfl (fun K hK => ?_)
    go_simp
    go_at_call 49
    refine (HGR.out _ O31.out).mono ?_
    rintro e y2 ⟨A9, c9, rfl, ho9, hb2⟩
    have RS2 := hid (RS1.out.below hb2 RS1.out.lt)
    have Z32 := hid (Z31.out.below hb2 Z31.out.lt)
    have H32 := hid (H31.out.trans (hb2.mono (by omega)))
    have O32 := hid (own_put (gw := shW s) (gh := shH s) O31.out hb2 ho9 (by omega))
    have z32 := hb2.size
    clear hb2 ho9
    go_simp
    refine hK.out _ _ (fun _ => SOK.out _ RS2.out) (fun hH => ?_)
    clear hK K
    clear hHeld
    have hHeld := hH (by decide)
    clear hH
    (try simp only [Act.put, List.setIfInBounds_toArray, List.set_cons_zero, List.set_cons_succ])
    refine HeldF.wpAnyF_one (k := 9) (o := { dst := some 27, op := Op.call { callee := Callee.value (Operand.func 42), args := #[Operand.tmp 18, Operand.tmp 26], argTypes := #[38, 34] }, type := 38, pos := "l10_seq.go:119", after := #[{ on := 0, ground := Ground.data }, { on := 8, ground := Ground.data }, { on := 8, ground := Ground.chain }], guard := none }) (by kernel_rfl) rfl (fun K hK => ?_)
    go_simp
    go_at_call 42
    refine (l09Put_any s (shW s) (shH s) A9 c9 R _).mono ?_
    rintro e y3 ⟨rfl, hb3⟩
    have RS3 := hid (RS2.out.below hb3 RS2.out.lt)
    have Z33 := hid (Z32.out.below hb3 Z32.out.lt)
    have H33 := hid (H32.out.trans (hb3.mono (by omega)))
    have O33 := hid (O32.out.below (Nat.le_refl _) hb3)
    have rz33 : RowZ y3 w.heap.size 31 := RowZ.of RS3.out.row 31 rfl
    clear hb3
    go_simp
    refine hK.out _ _ (fun _ => SOK.out _ RS3.out) (fun hH => ?_)
    clear hK K
    clear hHeld
    have hHeld := hH (by decide)
    clear hH
    (try simp only [Act.put, List.setIfInBounds_toArray, List.set_cons_zero, List.set_cons_succ])
    refine HeldF.wpAnyF_one (k := 10) (o := { dst := none, op := Op.store 38 (Operand.tmp 2) (Operand.tmp 27), type := 0, pos := "l10_seq.go:119", after := #[{ on := 9, ground := Ground.data }, { on := 9, ground := Ground.chain }, { on := 0, ground := Ground.phase }, { on := 1, ground := Ground.phase }, { on := 2, ground := Ground.phase }, { on := 3, ground := Ground.phase }, { on := 4, ground := Ground.phase }, { on := 5, ground := Ground.phase }, { on := 6, ground := Ground.phase }, { on := 7, ground := Ground.phase }, { on := 8, ground := Ground.phase }, { on := 9, ground := Ground.phase }], guard := none }) (by kernel_rfl) rfl (fun K hK => ?_)
    go_simp
    refine hK.out _ _ (fun h => absurd rfl h) (fun hH => ?_)
    clear hK K
    clear hHeld hH
    (try simp only [Act.put, List.setIfInBounds_toArray, List.set_cons_zero, List.set_cons_succ])
    refine HeldF.wpAnyF_done (by kernel_rfl) ?_ _
    refine NoPanic.normal ?_
    rename_i K0 hK0
    refine hK0 _ _ ?_
    clear hK0 K0 rz33
    all_goals
      clear SOK HGR HEY HEB
      obtain ⟨t, ht⟩ : ∃ t, t = putS s (shW s) (shH s) ⟨A9, c9, R⟩ := ⟨_, rfl⟩
      have DT := hid (show t.data = putD s.data R from by rw [ht]; exact put_data)
      rw [← ht] at O33
      rw [← ht]
      clear ht
      obtain ⟨W4, hW4⟩ : ∃ W4, W4 = y3.setRow w.heap.size (scrA t) := ⟨_, rfl⟩
      have RB4 := hid (show RowS W4 w.heap.size t from by rw [hW4]; exact RS3.out.store)
      have RZ4 := hid (show RowS W4 (w.heap.size + 1) zeroS from by rw [hW4]; exact Z33.out.row_other (by omega))
      have H4 := hid (show Below w.heap.size w W4 from by rw [hW4]; exact below_setRow H33.out (Nat.le_refl _) _)
      have O4 := hid (show OwnS W4 B t from by rw [hW4]; exact O33.out.keepRow _ _ (.inr (RS3.out.apart O33.out)))
      obtain ⟨W5, hW5⟩ : ∃ W5, W5 = (W4.setCell ⟨w.heap.size, 9, none⟩ (.int .i64 0)).setCell ⟨w.heap.size, 11, none⟩ (.bool false) := ⟨_, rfl⟩
      have RB5 := hid (show RowS W5 w.heap.size { t with x := 0, wrap := false } from by rw [hW5]; exact RowS.s_wrap (z := false) (RowS.s_x (z := 0) RB4.out))
      have RZ5 := hid (show RowS W5 (w.heap.size + 1) zeroS from by rw [hW5]; exact (RZ4.out.other (by simp)).other (by simp))
      have H5 := hid (show Below w.heap.size w W5 from by rw [hW5]; exact (H4.out.setCell (Nat.le_refl _) _).setCell (Nat.le_refl _) _)
      have O5 := hid (show OwnS W5 B { t with x := 0, wrap := false } from by
        have h := O4.out.only (S := fun i => i = w.heap.size) (w' := W5) (by rw [hW5]; exact (Only.cell_ (S := fun i => i = w.heap.size) W4 w.heap.size 9 (.int .i64 0) rfl).trans (Only.cell_ _ w.heap.size 11 (.bool false) rfl)) (fun i hi e => by subst e; exact RB4.out.apart O4.out hi)
        exact ⟨h.c, h.t, h.r⟩)
      have k9 : W4.cell? ⟨w.heap.size, 9, none⟩ = some (.int .i64 t.x) := RB4.out.cell 9
      have k11 : W4.cell? ⟨w.heap.size, 11, none⟩ = some (.bool t.wrap) := RB4.out.cell 11
      have hf := RB4.out.free
      have row5 : rowOf W5 w.heap.size = scrA { t with x := 0, wrap := false } := RB5.out.of
      have rz5 : RowZ W5 (w.heap.size + 1) 31 := RowZ.of RZ5.out.row 31 rfl
      rw [hW4] at k9 k11 hf
      rw [hW5, hW4] at row5 rz5
      clear a10 a18 rz1 row1
      go_wp2_with fail
      rw [← hW4, ← hW5]
      refine bodyPost_ret (v := .agg (scrA { t with x := 0, wrap := false })) (res55 Tryz.results47 _ _ (w.heap.size + 1) _ (by simp) ((RZ5.out).row.setRow) rfl) rfl ⟨{ t with x := 0, wrap := false }, rfl, ?_, ?_, ?_⟩
      · exact OwnS.keepRow (O5.out) (w.heap.size + 1) _ (.inr (RowS.apart (RZ5.out) (O5.out)))
      · rw [← HD.out, ← DT.out]; rfl
      · exact below_setRow (H5.out) (by omega) _
end Go.Proofs.YtgnpgkkjcloghaaGreat.Sc
