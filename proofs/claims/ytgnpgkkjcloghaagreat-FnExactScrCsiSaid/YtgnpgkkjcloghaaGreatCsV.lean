/- What the model makes of a region moved by any number of rows. -/
import Derived.Test.YtgnpgkkjcloghaaGreatCsQ
set_option maxRecDepth 100000
set_option maxHeartbeats 6400000
set_option linter.unusedVariables false
namespace Go.Proofs.YtgnpgkkjcloghaaGreat.Sc
open Lib
open Go.RowKit Bytes Rows_ RowK Gr DOk Opq Attr
attribute [local go_sem ↓] Sc.exec_storeS Sc.exec_loadS
attribute [local go_sem] rowOf_drew blkOf_ptr isHead_ptr aggN_agg setRow_alloc rowZ_at rowZ_past scrA_size one_scr rowOf_alloc_at rowOf_alloc_past
attribute [local go_sem] sa_w sa_h sa_mw sa_mh sa_M sa_aw sa_ah sa_A sa_onAlt sa_x sa_y sa_wrap sa_fg sa_bg sa_b sa_u sa_t sa_top sa_bot sa_noWrap sa_hide sa_sx sa_sy sa_sfg sa_sbg sa_sb sa_su sa_st sa_tabs sa_lim sa_rows
attribute [local go_sem] scr_at0 scr_at1 scr_at2 scr_at3 scr_at4 scr_at5 scr_at6 scr_at7 scr_at8 scr_at9 scr_at10 scr_at11 scr_at12 scr_at13 scr_at14 scr_at15 scr_at16 scr_at17 scr_at18 scr_at19 scr_at20 scr_at21 scr_at22 scr_at23 scr_at24 scr_at25 scr_at26 scr_at27 scr_at28 scr_at29 scr_at30
theorem keep_snocQ (L : Nat) (rows rs : List (List CellD)) (r : List CellD) : keepL L (keepN L rows rs) r = keepN L rows (rs ++ [r]) := by
  unfold keepL keepN
  rw [← List.append_assoc]
  obtain ⟨R, hR⟩ : ∃ R, R = rows ++ rs := ⟨_, rfl⟩
  have hl : R.length = rows.length + rs.length := by rw [hR, List.length_append]
  rw [← hR, ← List.drop_append_of_le_length (by omega), List.drop_drop]
  congr 1
  rw [List.length_drop, List.length_append, List.length_singleton]
  omega
theorem keepN_lenQ (L : Nat) (rows rs : List (List CellD)) : (keepN L rows rs).length ≤ L := by
  unfold keepN; rw [List.length_drop, List.length_append]; omega
theorem keepN_nilQ {L : Nat} {rows : List (List CellD)} (h : rows.length ≤ L) : keepN L rows [] = rows := by
  unfold keepN; rw [List.append_nil, List.length_nil, show rows.length + 0 - L = 0 by omega, List.drop_zero]
def KeepR (w w' : World) : Prop := ∀ b u, RowS w b u → RowS w' b u
theorem KeepR.below {w v y : World} (h : KeepR w v) (hb : Below v.heap.size v y) : KeepR w y := fun b u hr => (h b u hr).below hb (h b u hr).lt
theorem KeepR.store {w v : World} (h : KeepR w v) {b : Nat} {D : Array Value} (hb : w.heap.size ≤ b) : KeepR w (v.setRow b D) := fun b' u hr => (h b' u hr).row_other (by have := hr.lt; omega)
theorem KeepR.only {w v y : World} {B : Nat} {t : ScrS} {S : Nat → Prop} (h : KeepR w v) (ho : OwnS v B t) (hon : Only S v y) (hS : ∀ i, S i → SS t i) : KeepR w y := fun b u hr => (h b u hr).only hon (fun e => (h b u hr).apart ho (hS b e))
def AnsK (B : Nat) (d : ScrD) (w : World) (e : Ending) (w' : World) : Prop := ∃ s, e = .returned (.agg (scrA s)) ∧ OwnS w' B s ∧ s.data = d ∧ Below B w w' ∧ KeepR w w'
theorem l09RollN_any (s : ScrS) (B : Nat) (n : Int) (w : World) (hB : B ≤ w.heap.size) (ho : OwnS w B s) (hok : okD s.data = true) (hn : 1 ≤ n) (hn2 : n ≤ 9999) :
    Calls Tryz.prog 48 #[.agg (scrA s), .int .i64 n] w (AnsK B (scrollD s.data n) w) := by
  obtain ⟨W, H, X, Y, T, Bt, L, fit⟩ := ok_fit hok
  have hls := sh_lenS hok
  have et : s.top = (T : Int) := fit.top
  have eb : s.bot = (Bt : Int) := fit.bot
  have htb := fit.tb
  have hbh := fit.bh
  have hh2 := fit.h2
  have hone0 : One #[.int .i64 0, .int .i64 0, .int .i64 0, .int .i64 0, .slice none 0 0, .int .i64 0, .int .i64 0, .slice none 0 0, .bool false, .int .i64 0, .int .i64 0, .bool false, .int .i64 0, .int .i64 0, .bool false, .bool false, .bool false, .int .i64 0, .int .i64 0, .bool false, .bool false, .int .i64 0, .int .i64 0, .int .i64 0, .int .i64 0, .bool false, .bool false, .bool false, .slice none 0 0, .int .i64 0, .slice none 0 0] := one_scr zeroS
  obtain ⟨R, hR⟩ : ∃ R, R = rollC s.data s.top s.bot n := ⟨_, rfl⟩
  have HRL := hid (roll_ok hok n)
  have HGR := hid (fun (t : ScrS) (A : Option Addr) (c : Nat) (gs : List SlC) (ht : t = { s with bA := A, bk := c, rows := gs }) => show ∀ (W0 : World), OwnS W0 B t → Calls Tryz.prog 49 #[.agg #[.int .i64 (shW t), .int .i64 (shH t), .slice (shC t).A (shC t).cs.length (shC t).c], .int .i64 t.top, .int .i64 t.bot, .int .i64 n] W0 (fun e w' => ∃ A c, e = .returned (.agg #[.int .i64 (shW t), .int .i64 (shH t), .slice A R.length c]) ∧ OwnC w' W0.heap.size A R.length c R ∧ Below W0.heap.size W0 w') from by
    subst ht
    intro W0 h
    have h2 := spec_GridRoll_own (shW s) (shH s) s.top s.bot n (A := (shC s).A) (n := (shC s).cs.length) (c := (shC s).c) (cs := (shC s).cs) (show OwnC W0 B (shC s).A (shC s).cs.length (shC s).c (shC s).cs from own_sh (s := { s with bA := A, bk := c, rows := gs }) h) hls
    rw [HRL.out, ← hR] at h2
    exact h2)
  obtain ⟨W1, hW⟩ : ∃ W, W = (w.alloc (.cells (scrA s) 38)).alloc (.cells #[.int .i64 0, .int .i64 0, .int .i64 0, .int .i64 0, .slice none 0 0, .int .i64 0, .int .i64 0, .slice none 0 0, .bool false, .int .i64 0, .int .i64 0, .bool false, .int .i64 0, .int .i64 0, .bool false, .bool false, .bool false, .int .i64 0, .int .i64 0, .bool false, .bool false, .int .i64 0, .int .i64 0, .int .i64 0, .int .i64 0, .bool false, .bool false, .bool false, .slice none 0 0, .int .i64 0, .slice none 0 0] 38) := ⟨_, rfl⟩
  have RB1 := hid (show RowS W1 w.heap.size s from by rw [hW]; exact (RowS.new w s).alloc _)
  have RZ1 := hid (show RowS W1 (w.heap.size + 1) zeroS from by
    rw [hW]
    have h := RowS.new (w.alloc (.cells (scrA s) 38)) zeroS
    rw [World.size_alloc] at h; exact h)
  have hal0 : Below w.heap.size w W1 := by rw [hW]; exact ((Below.refl w.heap.size w).alloc (Nat.le_refl _) _).alloc (by simp) _
  have H1 := hid hal0
  have O1 := hid (ho.below (Nat.le_refl _) hal0)
  have hs1 : w.heap.size + 1 < W1.heap.size := RZ1.out.lt
  have row1 : rowOf W1 w.heap.size = scrA s := RB1.out.of
  have rz1 : RowZ W1 (w.heap.size + 1) 31 := RowZ.of RZ1.out.row 31 rfl
  clear hal0
  have KR1 := hid (show KeepR w W1 from fun b u hr => hr.below H1.out hr.lt)
  have BL1 := hid (H1.out.mono hB)
  have a8 : W1.cell? ⟨w.heap.size, 8, none⟩ = some (.bool s.onAlt) := RB1.out.cell 8
  have a17 : W1.cell? ⟨w.heap.size, 17, none⟩ = some (.int .i64 (T : Int)) := by rw [← et]; exact RB1.out.cell 17
  have a18 : W1.cell? ⟨w.heap.size, 18, none⟩ = some (.int .i64 (Bt : Int)) := by rw [← eb]; exact RB1.out.cell 18
  have hle : (0 : Int) ≤ (Bt : Int) - (T : Int) := by omega
  have hn0 : (0 : Int) < n := by omega
  have hwr : IntKind.i64.wrap ((Bt : Int) - (T : Int)) = (Bt : Int) - (T : Int) := IntWalk.i64_in _ (by omega)
  cases hk : keepsB s.data
  · have HD := hid (show putD s.data R = scrollD s.data n from by unfold scrollD; rw [hk, if_neg (by decide), hR]; rfl)
    obtain ⟨t, ht⟩ : ∃ t, t = s := ⟨_, rfl⟩
    have HGRt := hid (HGR.out t s.bA s.bk s.rows ht)
    have RBt := hid (show RowS W1 w.heap.size t from by rw [ht]; exact RB1.out)
    have RZt := RZ1
    have OOt := hid (show OwnS W1 B t from by rw [ht]; exact O1.out)
    have BLt := BL1
    have KRt := KR1
    have DTt := hid (show t.data = s.data from by rw [ht])
    have BVt : B ≤ W1.heap.size := by omega
    clear HGR hR ho
    cases hal : s.onAlt
    · have hT0 : ¬ (T : Int) = 0 := by
        unfold keepsB at hk
        rw [show s.data.onAlt = s.onAlt from rfl, hal, show s.data.top = (T : Int) from et] at hk
        simpa using hk
      rw [hal] at a8
      clear hk hok fit et eb ht
      go_enter Tryz.func48, Tryz.ntmps48
      go_upto_region 1 with fail
      rw [← hW]
      clear hW
      go_wp2_with fail
      refine wp_loop_rounds 1 ?_
      rw [rounds_succ]
      go_wp2_with fail
      clear a8 a17 a18 hT0 row1
      go_region_held3 (fun w' => rowOf w' w.heap.size = scrA t ∧ (w'.cell? ⟨w.heap.size, 17, none⟩ = some (.int .i64 t.top) ∧ w'.cell? ⟨w.heap.size, 18, none⟩ = some (.int .i64 t.bot))) (first | assumption | (exact ⟨RBt.out.of, RBt.out.cell 17, RBt.out.cell 18⟩) | (exact ⟨RS1.out.of, RS1.out.cell 17, RS1.out.cell 18⟩) | (exact ⟨RS2.out.of, RS2.out.cell 17, RS2.out.cell 18⟩) | (exact ⟨RS3.out.of, RS3.out.cell 17, RS3.out.cell 18⟩) | (exact ⟨(RS3.out.row_other (by omega)).of, (RS3.out.row_other (by omega)).cell 17, (RS3.out.row_other (by omega)).cell 18⟩)) (first
        | (go_at_call 44; (with_reducible refine (l09Shown_any t _).mono ?_); rintro e y1 ⟨rfl, hb1'⟩; have hb1 : Below W1.heap.size W1 y1 := undrew hb1'; have RS1 := hid (RBt.out.below hb1 RBt.out.lt); have Z31 := hid (RZt.out.below hb1 RZt.out.lt); have H31 := hid (BLt.out.trans (hb1.mono BVt)); have K31 := hid (KRt.out.below hb1); have O31 := hid (OOt.out.below (Nat.le_refl _) hb1); have z31 := hb1.size; clear hb1 hb1')
        | (go_at_call 49; (with_reducible refine (HGRt.out y1 O31.out).mono ?_); rintro e y2 ⟨A9, c9, rfl, ho9, hb2⟩; have RS2 := hid (RS1.out.below hb2 RS1.out.lt); have Z32 := hid (Z31.out.below hb2 Z31.out.lt); have H32 := hid (H31.out.trans (hb2.mono (by omega))); have K32 := hid (K31.out.below hb2); have O32 := hid (own_put (gw := shW t) (gh := shH t) O31.out hb2 ho9 (by omega)); have z32 := hb2.size; clear hb2 ho9)
        | (go_at_call 42; (with_reducible refine (l09Put_any t (shW t) (shH t) A9 c9 R _).mono ?_); rintro e y3 ⟨rfl, hb3⟩; have RS3 := hid (RS2.out.below hb3 RS2.out.lt); have Z33 := hid (Z32.out.below hb3 Z32.out.lt); have H33 := hid (H32.out.trans (hb3.mono (by omega))); have K33 := hid (K32.out.below hb3); have O33 := hid (O32.out.below (Nat.le_refl _) hb3); have rz33 : RowZ y3 (w.heap.size + 1) 31 := RowZ.of Z33.out.row 31 rfl; clear hb3))
      all_goals
        go_wp2_with fail
        refine bodyPost_ret (v := .agg (scrA (putS t (shW t) (shH t) ⟨A9, c9, R⟩))) (res55 Tryz.results48 _ _ (w.heap.size + 1) _ (by simp) (Z33.out.row.setRow) rfl) rfl ⟨_, rfl, ?_, ?_, ?_, ?_⟩
        · exact O33.out.keepRow (w.heap.size + 1) _ (.inr (Z33.out.apart O33.out))
        · rw [← HD.out, ← DTt.out]; exact put_data
        · exact below_setRow H33.out (by omega) _
        · exact K33.out.store (by omega)
    · rw [hal] at a8
      clear hk hok fit et eb ht
      go_enter Tryz.func48, Tryz.ntmps48
      go_upto_region 1 with fail
      rw [← hW]
      clear hW
      go_wp2_with fail
      refine wp_loop_rounds 1 ?_
      rw [rounds_succ]
      go_wp2_with fail
      clear a8 a17 a18 row1
      go_region_held3 (fun w' => rowOf w' w.heap.size = scrA t ∧ (w'.cell? ⟨w.heap.size, 17, none⟩ = some (.int .i64 t.top) ∧ w'.cell? ⟨w.heap.size, 18, none⟩ = some (.int .i64 t.bot))) (first | assumption | (exact ⟨RBt.out.of, RBt.out.cell 17, RBt.out.cell 18⟩) | (exact ⟨RS1.out.of, RS1.out.cell 17, RS1.out.cell 18⟩) | (exact ⟨RS2.out.of, RS2.out.cell 17, RS2.out.cell 18⟩) | (exact ⟨RS3.out.of, RS3.out.cell 17, RS3.out.cell 18⟩) | (exact ⟨(RS3.out.row_other (by omega)).of, (RS3.out.row_other (by omega)).cell 17, (RS3.out.row_other (by omega)).cell 18⟩)) (first
        | (go_at_call 44; (with_reducible refine (l09Shown_any t _).mono ?_); rintro e y1 ⟨rfl, hb1'⟩; have hb1 : Below W1.heap.size W1 y1 := undrew hb1'; have RS1 := hid (RBt.out.below hb1 RBt.out.lt); have Z31 := hid (RZt.out.below hb1 RZt.out.lt); have H31 := hid (BLt.out.trans (hb1.mono BVt)); have K31 := hid (KRt.out.below hb1); have O31 := hid (OOt.out.below (Nat.le_refl _) hb1); have z31 := hb1.size; clear hb1 hb1')
        | (go_at_call 49; (with_reducible refine (HGRt.out y1 O31.out).mono ?_); rintro e y2 ⟨A9, c9, rfl, ho9, hb2⟩; have RS2 := hid (RS1.out.below hb2 RS1.out.lt); have Z32 := hid (Z31.out.below hb2 Z31.out.lt); have H32 := hid (H31.out.trans (hb2.mono (by omega))); have K32 := hid (K31.out.below hb2); have O32 := hid (own_put (gw := shW t) (gh := shH t) O31.out hb2 ho9 (by omega)); have z32 := hb2.size; clear hb2 ho9)
        | (go_at_call 42; (with_reducible refine (l09Put_any t (shW t) (shH t) A9 c9 R _).mono ?_); rintro e y3 ⟨rfl, hb3⟩; have RS3 := hid (RS2.out.below hb3 RS2.out.lt); have Z33 := hid (Z32.out.below hb3 Z32.out.lt); have H33 := hid (H32.out.trans (hb3.mono (by omega))); have K33 := hid (K32.out.below hb3); have O33 := hid (O32.out.below (Nat.le_refl _) hb3); have rz33 : RowZ y3 (w.heap.size + 1) 31 := RowZ.of Z33.out.row 31 rfl; clear hb3))
      all_goals
        go_wp2_with fail
        refine bodyPost_ret (v := .agg (scrA (putS t (shW t) (shH t) ⟨A9, c9, R⟩))) (res55 Tryz.results48 _ _ (w.heap.size + 1) _ (by simp) (Z33.out.row.setRow) rfl) rfl ⟨_, rfl, ?_, ?_, ?_, ?_⟩
        · exact O33.out.keepRow (w.heap.size + 1) _ (.inr (Z33.out.apart O33.out))
        · rw [← HD.out, ← DTt.out]; exact put_data
        · exact below_setRow H33.out (by omega) _
        · exact K33.out.store (by omega)
  · have hkb := hk
    unfold keepsB at hk
    rw [Bool.and_eq_true] at hk
    have hal : s.onAlt = false := by have h := hk.1; rw [show s.data.onAlt = s.onAlt from rfl] at h; simpa using h
    have hT0 : T = 0 := by have h := of_decide_eq_true hk.2; have h' : s.top = 0 := h; omega
    subst hT0
    obtain ⟨m, hm⟩ : ∃ m : Nat, m = (min n ((Bt : Int) + 1)).toNat := ⟨_, rfl⟩
    have HD := hid (show putD (keptD s.data n) R = scrollD s.data n from by unfold scrollD; rw [hkb, if_pos rfl, hR]; rfl)
    have hrl : s.rows.length ≤ L := by have h := fit.rl; rw [show s.data.rows.length = s.rows.length from List.length_map _] at h; exact h
    have hml : s.M.cs.length = W * H := fit.ml
    have hwH := fit.wh
    have HKC := hid (fun (V : World) A c gs (k : Nat) (hk : k < m) (h : OwnS V B { s with bA := A, bk := c, rows := gs }) (hr : gs.length ≤ L) (hz : B ≤ V.heap.size) => keepC { s with bA := A, bk := c, rows := gs } B V W k L h fit.w fit.w1 (by
      show k * W + W ≤ s.M.cs.length
      rw [hml, Nat.mul_comm W H, show k * W + W = (k + 1) * W by rw [Nat.add_mul, Nat.one_mul]]
      exact Nat.mul_le_mul_right _ (by omega)) (by omega) (by show s.M.cs.length ≤ _; rw [hml]; omega) fit.lim fit.l2 hr hz)
    have HDT := hid (fun A c (gs : List SlC) (h : gs.map (·.cs) = keepN L (s.rows.map (·.cs)) (rowsM s.M.cs W m)) => show ({ s with bA := A, bk := c, rows := gs } : ScrS).data = keptD s.data n from by
      have e : keptD s.data n = { s.data with rows := keepN L s.data.rows (rowsM s.data.M W m) } := by
        have e1 : s.data.w.toNat = W := by rw [fit.w]; rfl
        have e2 : s.data.lim.toNat = L := by rw [fit.lim]; rfl
        have e3 : (min n (s.data.bot + 1)).toNat = m := by rw [show s.data.bot = (Bt : Int) from eb]; exact hm.symm
        unfold keptD
        rw [e1, e2, e3]
      rw [e]
      exact (show ({ s with bA := A, bk := c, rows := gs } : ScrS).data = { s.data with rows := gs.map (·.cs) } from rfl).trans (by rw [h]; rfl))
    have HR0 := hid (show s.rows.map (·.cs) = keepN L (s.rows.map (·.cs)) (rowsM s.M.cs W 0) from by
      rw [show rowsM s.M.cs W 0 = [] by simp [rowsM], keepN_nilQ (by rw [List.length_map]; exact hrl)])
    have HET := hid et
    have HEB := hid eb
    have HAL := hid hal
    have hmn : (m : Int) ≤ n ∧ m ≤ Bt + 1 ∧ ((m : Int) = n ∨ m = Bt + 1) := by omega
    have hwb : IntKind.i64.wrap (Bt : Int) = (Bt : Int) := IntWalk.i64_in _ (by omega)
    have hwb0 : IntKind.i64.wrap ((Bt : Int) - 0) = (Bt : Int) := by rw [Int.sub_zero]; exact hwb
    clear hk hkb hal fit et eb hok ho hR hrl hml hm a8 a17 a18 hwr hle
    go_enter Tryz.func48, Tryz.ntmps48
    go_upto_region 1 with fail
    rw [← hW]
    clear hW
    go_wp2_with fail
    go_loopw [5] (fun i wr => ∃ (k : Nat) (A : Option Addr) (c : Nat) (gs : List SlC), k ≤ m ∧ i = .int .i64 (k : Int) ∧ RowS wr w.heap.size { s with bA := A, bk := c, rows := gs } ∧ RowS wr (w.heap.size + 1) zeroS ∧ OwnS wr B { s with bA := A, bk := c, rows := gs } ∧ gs.map (·.cs) = keepN L (s.rows.map (·.cs)) (rowsM s.M.cs W k) ∧ Below B w wr ∧ KeepR w wr) (fun i _ => m - (intOf i).toNat)
    case atStart => exact ⟨0, s.bA, s.bk, s.rows, Nat.zero_le _, rfl, RB1.out, RZ1.out, O1.out, HR0.out, BL1.out, KR1.out⟩
    case round =>
      clear row1 rz1
      obtain ⟨k, A, c, gs, hk, rfl, hRS, hRZ, hOS, hgs, hbw, hkr⟩ := hrel
      have k8 : wr.cell? ⟨w.heap.size, 8, none⟩ = some (.bool false) := by rw [← HAL.out]; exact hRS.cell 8
      have k17 : wr.cell? ⟨w.heap.size, 17, none⟩ = some (.int .i64 0) := by rw [show (0 : Int) = ((0 : Nat) : Int) from rfl, ← HET.out]; exact hRS.cell 17
      have k18 : wr.cell? ⟨w.heap.size, 18, none⟩ = some (.int .i64 (Bt : Int)) := by rw [← HEB.out]; exact hRS.cell 18
      have RS := hid hRS
      have RZ := hid hRZ
      have OS := hid hOS
      have GS := hid hgs
      have BW := hid hbw
      have KW := hid hkr
      have hgl : gs.length ≤ L := by have h := keepN_lenQ L (s.rows.map (·.cs)) (rowsM s.M.cs W k); rw [← hgs, List.length_map] at h; exact h
      have hz1 : w.heap.size + 1 < wr.heap.size := hRZ.lt
      have hz0 : w.heap.size < wr.heap.size := by omega
      have hbz : B ≤ wr.heap.size := by omega
      have rowo := hRS.of
      by_cases hlt : k < m
      · have hlt' : (k : Int) < n := by omega
        have hle' : (k : Int) ≤ (Bt : Int) := by omega
        have HK := hid (HKC.out wr A c gs k hlt OS.out hgl hbz)
        clear hRS hRZ hOS hgs hbw hkr
        go_wp2_with fail
        refine HK.out.mono ?_
        rintro e v ⟨A', c', gs', rfl, hO', hm', hon'⟩
        have hns : ∀ i, (Value.slice A gs.length c).ownBlock = some i → SS { s with bA := A, bk := c, rows := gs } i := fun i e => .inr (.inr e)
        have RV := hid (RS.out.only hon' (fun e => RS.out.apart OS.out (hns _ e)))
        have ZV := hid (RZ.out.only hon' (fun e => RZ.out.apart OS.out (hns _ e)))
        have KV := hid (KW.out.only OS.out hon' hns)
        have OV := hid hO'
        have MV := hid (show gs'.map (·.cs) = keepN L (s.rows.map (·.cs)) (rowsM s.M.cs W (k + 1)) by
          rw [rowsM_succ, ← keep_snocQ, ← GS.out]; exact hm')
        have BV := hid (show Below B w v from Only.below_ hon' BW.out (by omega) (fun i hi => (OS.out.r.blk i hi).1))
        have rzv : RowZ v w.heap.size 31 := RowZ.of RV.out.row 31 rfl
        clear hO' hm' hon' HK k8 k17 k18 rowo
        go_wp2_with fail
        exact ⟨⟨k + 1, A', c', gs', by omega, by go_num, RV.out.store, ZV.out.row_other (by omega), OV.out.keepRow _ _ (.inr (RV.out.apart OV.out)), MV.out, below_setRow BV.out (by omega) _, KV.out.store (Nat.le_refl _)⟩, by simp [intOf]; omega⟩
      · obtain rfl : m = k := by omega
        obtain ⟨t, ht⟩ : ∃ t : ScrS, t = { s with bA := A, bk := c, rows := gs } := ⟨_, rfl⟩
        have HGRt := hid (HGR.out t A c gs ht)
        have RBt := hid (show RowS wr w.heap.size t from by rw [ht]; exact hRS)
        have RZt := RZ
        have OOt := hid (show OwnS wr B t from by rw [ht]; exact hOS)
        have BLt := BW
        have KRt := KW
        have DTt := hid (show t.data = keptD s.data n from by rw [ht]; exact HDT.out A c gs hgs)
        have BVt := hbz
        clear hRS hRZ hOS hgs hbw hkr ht HGR HKC HDT HR0 rowo
        by_cases hkn : (m : Int) < n
        · have hnb : ¬ (m : Int) ≤ (Bt : Int) := by omega
          have hmb : m = Bt + 1 := by omega
          clear hmn
          go_wp2_with fail
          clear k8 k17 k18
          go_region_held3 (fun w' => rowOf w' w.heap.size = scrA t ∧ (w'.cell? ⟨w.heap.size, 17, none⟩ = some (.int .i64 t.top) ∧ w'.cell? ⟨w.heap.size, 18, none⟩ = some (.int .i64 t.bot))) (first | assumption | (exact ⟨RBt.out.of, RBt.out.cell 17, RBt.out.cell 18⟩) | (exact ⟨RS1.out.of, RS1.out.cell 17, RS1.out.cell 18⟩) | (exact ⟨RS2.out.of, RS2.out.cell 17, RS2.out.cell 18⟩) | (exact ⟨RS3.out.of, RS3.out.cell 17, RS3.out.cell 18⟩) | (exact ⟨(RS3.out.row_other (by omega)).of, (RS3.out.row_other (by omega)).cell 17, (RS3.out.row_other (by omega)).cell 18⟩)) (first
            | (go_at_call 44; (with_reducible refine (l09Shown_any t _).mono ?_); rintro e y1 ⟨rfl, hb1'⟩; have hb1 : Below wr.heap.size wr y1 := undrew hb1'; have RS1 := hid (RBt.out.below hb1 RBt.out.lt); have Z31 := hid (RZt.out.below hb1 RZt.out.lt); have H31 := hid (BLt.out.trans (hb1.mono BVt)); have K31 := hid (KRt.out.below hb1); have O31 := hid (OOt.out.below (Nat.le_refl _) hb1); have z31 := hb1.size; clear hb1 hb1')
            | (go_at_call 49; (with_reducible refine (HGRt.out y1 O31.out).mono ?_); rintro e y2 ⟨A9, c9, rfl, ho9, hb2⟩; have RS2 := hid (RS1.out.below hb2 RS1.out.lt); have Z32 := hid (Z31.out.below hb2 Z31.out.lt); have H32 := hid (H31.out.trans (hb2.mono (by omega))); have K32 := hid (K31.out.below hb2); have O32 := hid (own_put (gw := shW t) (gh := shH t) O31.out hb2 ho9 (by omega)); have z32 := hb2.size; clear hb2 ho9)
            | (go_at_call 42; (with_reducible refine (l09Put_any t (shW t) (shH t) A9 c9 R _).mono ?_); rintro e y3 ⟨rfl, hb3⟩; have RS3 := hid (RS2.out.below hb3 RS2.out.lt); have Z33 := hid (Z32.out.below hb3 Z32.out.lt); have H33 := hid (H32.out.trans (hb3.mono (by omega))); have K33 := hid (K32.out.below hb3); have O33 := hid (O32.out.below (Nat.le_refl _) hb3); have rz33 : RowZ y3 (w.heap.size + 1) 31 := RowZ.of Z33.out.row 31 rfl; clear hb3))
          all_goals
            go_wp2_with fail
            refine bodyPost_ret (v := .agg (scrA (putS t (shW t) (shH t) ⟨A9, c9, R⟩))) (res55 Tryz.results48 _ _ (w.heap.size + 1) _ (by simp) (Z33.out.row.setRow) rfl) rfl ⟨_, rfl, ?_, ?_, ?_, ?_⟩
            · exact O33.out.keepRow (w.heap.size + 1) _ (.inr (Z33.out.apart O33.out))
            · rw [← HD.out, ← DTt.out]; exact put_data
            · exact below_setRow H33.out (by omega) _
            · exact K33.out.store (by omega)
        · clear hmn
          go_wp2_with fail
          clear k8 k17 k18
          go_region_held3 (fun w' => rowOf w' w.heap.size = scrA t ∧ (w'.cell? ⟨w.heap.size, 17, none⟩ = some (.int .i64 t.top) ∧ w'.cell? ⟨w.heap.size, 18, none⟩ = some (.int .i64 t.bot))) (first | assumption | (exact ⟨RBt.out.of, RBt.out.cell 17, RBt.out.cell 18⟩) | (exact ⟨RS1.out.of, RS1.out.cell 17, RS1.out.cell 18⟩) | (exact ⟨RS2.out.of, RS2.out.cell 17, RS2.out.cell 18⟩) | (exact ⟨RS3.out.of, RS3.out.cell 17, RS3.out.cell 18⟩) | (exact ⟨(RS3.out.row_other (by omega)).of, (RS3.out.row_other (by omega)).cell 17, (RS3.out.row_other (by omega)).cell 18⟩)) (first
            | (go_at_call 44; (with_reducible refine (l09Shown_any t _).mono ?_); rintro e y1 ⟨rfl, hb1'⟩; have hb1 : Below wr.heap.size wr y1 := undrew hb1'; have RS1 := hid (RBt.out.below hb1 RBt.out.lt); have Z31 := hid (RZt.out.below hb1 RZt.out.lt); have H31 := hid (BLt.out.trans (hb1.mono BVt)); have K31 := hid (KRt.out.below hb1); have O31 := hid (OOt.out.below (Nat.le_refl _) hb1); have z31 := hb1.size; clear hb1 hb1')
            | (go_at_call 49; (with_reducible refine (HGRt.out y1 O31.out).mono ?_); rintro e y2 ⟨A9, c9, rfl, ho9, hb2⟩; have RS2 := hid (RS1.out.below hb2 RS1.out.lt); have Z32 := hid (Z31.out.below hb2 Z31.out.lt); have H32 := hid (H31.out.trans (hb2.mono (by omega))); have K32 := hid (K31.out.below hb2); have O32 := hid (own_put (gw := shW t) (gh := shH t) O31.out hb2 ho9 (by omega)); have z32 := hb2.size; clear hb2 ho9)
            | (go_at_call 42; (with_reducible refine (l09Put_any t (shW t) (shH t) A9 c9 R _).mono ?_); rintro e y3 ⟨rfl, hb3⟩; have RS3 := hid (RS2.out.below hb3 RS2.out.lt); have Z33 := hid (Z32.out.below hb3 Z32.out.lt); have H33 := hid (H32.out.trans (hb3.mono (by omega))); have K33 := hid (K32.out.below hb3); have O33 := hid (O32.out.below (Nat.le_refl _) hb3); have rz33 : RowZ y3 (w.heap.size + 1) 31 := RowZ.of Z33.out.row 31 rfl; clear hb3))
          all_goals
            go_wp2_with fail
            refine bodyPost_ret (v := .agg (scrA (putS t (shW t) (shH t) ⟨A9, c9, R⟩))) (res55 Tryz.results48 _ _ (w.heap.size + 1) _ (by simp) (Z33.out.row.setRow) rfl) rfl ⟨_, rfl, ?_, ?_, ?_, ?_⟩
            · exact O33.out.keepRow (w.heap.size + 1) _ (.inr (Z33.out.apart O33.out))
            · rw [← HD.out, ← DTt.out]; exact put_data
            · exact below_setRow H33.out (by omega) _
            · exact K33.out.store (by omega)
end Go.Proofs.YtgnpgkkjcloghaaGreat.Sc
