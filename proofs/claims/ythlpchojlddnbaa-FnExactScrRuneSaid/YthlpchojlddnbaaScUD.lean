/- Words and lemmas, merged (once: ScUpS, ScDownS) -/
import Derived.Test.YthlpchojlddnbaaScCopy
import Derived.Test.YthlpchojlddnbaaKiO
import Derived.Test.YthlpchojlddnbaaKiD
import Derived.Test.YthlpchojlddnbaaGrSlide
import Derived.Test.YthlpchojlddnbaaKiP
import Derived.Deep.RegionHeld3
import Derived.IntWalk
namespace Go.Proofs.Ythlpchojlddnbaa.Sc
open Go.RowKit Go.Proofs.Ythlpchojlddnbaa.Bytes Go.Proofs.Ythlpchojlddnbaa.Rows_ Go.Proofs.Ythlpchojlddnbaa.RowK Go.Proofs.Ythlpchojlddnbaa.Gr Go.Proofs.Ythlpchojlddnbaa.DOk Go.Proofs.Ythlpchojlddnbaa.Opq Go.Proofs.Ythlpchojlddnbaa.Attr
set_option linter.unusedVariables false
attribute [local go_sem ↓] Sc.exec_storeS Sc.exec_loadS
attribute [local go_sem] rowOf_drew blkOf_ptr isHead_ptr aggN_agg setRow_alloc rowZ_at rowZ_past scrA_size one_scr rowOf_alloc_at rowOf_alloc_past
attribute [local go_sem] sa_w sa_h sa_mw sa_mh sa_M sa_aw sa_ah sa_A sa_onAlt sa_x sa_y sa_wrap sa_fg sa_bg sa_b sa_u sa_t sa_top sa_bot sa_noWrap sa_hide sa_sx sa_sy sa_sfg sa_sbg sa_sb sa_su sa_st sa_tabs sa_lim sa_rows
attribute [local go_sem] scr_at0 scr_at1 scr_at2 scr_at3 scr_at4 scr_at5 scr_at6 scr_at7 scr_at8 scr_at9 scr_at10 scr_at11 scr_at12 scr_at13 scr_at14 scr_at15 scr_at16 scr_at17 scr_at18 scr_at19 scr_at20 scr_at21 scr_at22 scr_at23 scr_at24 scr_at25 scr_at26 scr_at27 scr_at28 scr_at29 scr_at30
end Go.Proofs.Ythlpchojlddnbaa.Sc
namespace Go.Proofs.Ythlpchojlddnbaa.Sc
open Go.RowKit Go.Proofs.Ythlpchojlddnbaa.Bytes Go.Proofs.Ythlpchojlddnbaa.Rows_ Go.Proofs.Ythlpchojlddnbaa.RowK Go.Proofs.Ythlpchojlddnbaa.Gr Go.Proofs.Ythlpchojlddnbaa.DOk Go.Proofs.Ythlpchojlddnbaa.Opq Go.Proofs.Ythlpchojlddnbaa.Attr
set_option linter.unusedVariables false
attribute [local go_sem ↓] Sc.exec_storeS Sc.exec_loadS
attribute [local go_sem] rowOf_drew blkOf_ptr isHead_ptr aggN_agg setRow_alloc rowZ_at rowZ_past scrA_size one_scr rowOf_alloc_at rowOf_alloc_past
attribute [local go_sem] sa_w sa_h sa_mw sa_mh sa_M sa_aw sa_ah sa_A sa_onAlt sa_x sa_y sa_wrap sa_fg sa_bg sa_b sa_u sa_t sa_top sa_bot sa_noWrap sa_hide sa_sx sa_sy sa_sfg sa_sbg sa_sb sa_su sa_st sa_tabs sa_lim sa_rows
attribute [local go_sem] scr_at0 scr_at1 scr_at2 scr_at3 scr_at4 scr_at5 scr_at6 scr_at7 scr_at8 scr_at9 scr_at10 scr_at11 scr_at12 scr_at13 scr_at14 scr_at15 scr_at16 scr_at17 scr_at18 scr_at19 scr_at20 scr_at21 scr_at22 scr_at23 scr_at24 scr_at25 scr_at26 scr_at27 scr_at28 scr_at29 scr_at30
/-- what l09Keep is asked to do -/
def KeepC : Prop := ∀ (t : ScrS) (B : Nat) (w : World) (W y L : Nat), OwnS w B t → t.w = (W : Int) → 1 ≤ W → y * W + W ≤ t.M.cs.length → y ≤ 1000 → t.M.cs.length ≤ 1048576 → t.lim = (L : Int) → L ≤ 100 → t.rows.length ≤ L → B ≤ w.heap.size →
  Calls Try.prog 81 #[.agg (scrA t), .int .i64 (y : Int)] w fun e w' => ∃ A c gs, e = .returned (.agg (scrA { t with bA := A, bk := c, rows := gs })) ∧ OwnS w' B { t with bA := A, bk := c, rows := gs } ∧ gs.map (·.cs) = keepL L (t.rows.map (·.cs)) ((t.M.cs.drop (y * W)).take W) ∧ Only (fun i => (Value.slice t.bA t.rows.length t.bk).ownBlock = some i) w w'
/-- what a function leaves that answers a screen out of its argument's memory -/
theorem RowS.ne {w : World} {b base K n : Nat} {s : ScrS} {E : TypeId} {v : Value} {xs : List Value} (h : RowS w b s) (h' : w.ownsRow base E K v n xs) (hE : E ≠ 53) : v.ownBlock ≠ some b := by
  intro e
  rcases h'.2 with ⟨rfl, _⟩ | ⟨g, cap, cur, rfl, _, hg, _⟩
  · cases e
  · simp [Value.ownBlock] at e; subst e
    unfold RowS at h; rw [hg] at h; injection h with h; injection h with h1 h2; exact hE h2
theorem RowS.apart {w : World} {b base : Nat} {s t : ScrS} (h : RowS w b s) (h' : OwnS w base t) : ¬ SS t b := by
  rintro (⟨r, hr, hi⟩ | hi | hi)
  · exact h.ne (h'.c.1 r hr) (by decide) hi
  · exact h.ne h'.t (by decide) hi
  · rcases h'.r.2 with ⟨e, _⟩ | ⟨g, p, cur, e, _, hg, _⟩
    · rw [e] at hi; cases hi
    · rw [e] at hi
      simp [Value.ownBlock] at hi; subst hi
      unfold RowS at h; rw [hg] at h; injection h with h; injection h with h1 h2; exact absurd h2 (by decide)
theorem OwnS.keepRow {w : World} {B : Nat} {s : ScrS} (h : OwnS w B s) (b : Nat) (D : Array Value) (hn : b < B ∨ ¬ SS s b) : OwnS (w.setRow b D) B s := h.only (S := fun i => i = b) (only_setRow w b D rfl) (fun i hi e => by
  subst e
  rcases hn with hn | hn
  · have := (h.blk i hi).1; omega
  · exact hn hi)
def BkS (s : ScrS) (i : Nat) : Prop := (Value.slice s.bA s.rows.length s.bk).ownBlock = some i
theorem Only.row_new {S : Nat → Prop} {w V : World} (h : Only S w V) (b : Nat) (D : Array Value) (hb : w.heap.size ≤ b) : Only S w (V.setRow b D) := ⟨h.os, h.tape, h.output, by simp; exact h.size, fun i hi hn => by rw [Go.setRow_other V b i D (by omega)]; exact h.block i hi hn⟩
theorem Only.cell_new {S : Nat → Prop} {w V : World} (h : Only S w V) (b j : Nat) (v : Value) (hb : w.heap.size ≤ b) : Only S w (V.setCell ⟨b, j, none⟩ v) := ⟨h.os, h.tape, h.output, by simp; exact h.size, fun i hi hn => by rw [heap_setCell_other _ _ _ _ (show i ≠ b by omega)]; exact h.block i hi hn⟩
def AnsB (S : Nat → Prop) (B : Nat) (d : ScrD) (w : World) (e : Ending) (w' : World) : Prop := ∃ s, e = .returned (.agg (scrA s)) ∧ OwnS w' B s ∧ s.data = d ∧ Only S w w'
set_option maxRecDepth 100000 in
set_option maxHeartbeats 3200000 in
theorem l09Roll_any (HKC : KeepC) (s : ScrS) (B : Nat) (w : World) (hB : B ≤ w.heap.size) (ho : OwnS w B s) (hok : okD s.data = true) :
    Calls Try.prog 100 #[.agg (scrA s), .int .i64 1] w (AnsB (BkS s) B (roll1D s.data) w) := by
  obtain ⟨wd, hh, X, Y, T, Bt, L, fit⟩ := ok_fit hok
  have hls : (shC s).cs.length ≤ 1048576 := by have h := ok_size hok; unfold shC; unfold szD at h; cases s.onAlt <;> simp <;> (have e1 : s.data.M = s.M.cs := rfl; have e2 : s.data.A = s.A.cs := rfl; rw [e1, e2] at h; omega)
  have et : s.top = (T : Int) := fit.top
  have eb : s.bot = (Bt : Int) := fit.bot
  have htb := fit.tb
  have hbh := fit.bh
  have hh2 := fit.h2
  obtain ⟨R, hR⟩ : ∃ R, R = rollC s.data s.top s.bot 1 := ⟨_, rfl⟩
  have HRL := Lib.hid (roll_ok hok 1)
  have HGR0 := Lib.hid (show ∀ (W0 : World) (A : Option Addr) (c : Nat) (gs : List SlC), OwnS W0 B { s with bA := A, bk := c, rows := gs } → Calls Try.prog 123 #[.agg #[.int .i64 (shW s), .int .i64 (shH s), .slice (shC s).A (shC s).cs.length (shC s).c], .int .i64 s.top, .int .i64 s.bot, .int .i64 1] W0 (fun e w' => ∃ A c, e = .returned (.agg #[.int .i64 (shW s), .int .i64 (shH s), .slice A R.length c]) ∧ OwnC w' W0.heap.size A R.length c R ∧ Below W0.heap.size W0 w') from fun W0 A c gs h => by
    have hc : OwnC W0 B (shC s).A (shC s).cs.length (shC s).c (shC s).cs := by
      unfold shC
      cases s.onAlt
      · exact h.m
      · exact h.a
    have h2 := spec_GridRoll_own (shW s) (shH s) s.top s.bot 1 hc hls
    rw [HRL.out, ← hR] at h2
    exact h2)
  have HRD := Lib.hid hR
  obtain ⟨W1, hW⟩ : ∃ W, W = (w.alloc (.cells (scrA s) 53)).alloc (.cells #[.int .i64 0, .int .i64 0, .int .i64 0, .int .i64 0, .slice none 0 0, .int .i64 0, .int .i64 0, .slice none 0 0, .bool false, .int .i64 0, .int .i64 0, .bool false, .int .i64 0, .int .i64 0, .bool false, .bool false, .bool false, .int .i64 0, .int .i64 0, .bool false, .bool false, .int .i64 0, .int .i64 0, .int .i64 0, .int .i64 0, .bool false, .bool false, .bool false, .slice none 0 0, .int .i64 0, .slice none 0 0] 53) := ⟨_, rfl⟩
  have RB1 := Lib.hid (show RowS W1 w.heap.size s from by rw [hW]; exact (RowS.new w s).alloc _)
  have RZ1 := Lib.hid (show RowS W1 (w.heap.size + 1) zeroS from by
    rw [hW]
    have h := RowS.new (w.alloc (.cells (scrA s) 53)) zeroS
    rw [World.size_alloc] at h; exact h)
  have hal0 : Below w.heap.size w W1 := by rw [hW]; exact ((Below.refl w.heap.size w).alloc (Nat.le_refl _) _).alloc (by simp) _
  have BB1 := Lib.hid (show Only (BkS s) w W1 from Only.below hal0 (Nat.le_refl _))
  have OO1 := Lib.hid (ho.below (Nat.le_refl _) hal0)
  have hBW : B ≤ W1.heap.size := by have := hal0.size; omega
  have a8 : W1.cell? ⟨w.heap.size, 8, none⟩ = some (.bool s.onAlt) := RB1.out.cell 8
  have a17 : W1.cell? ⟨w.heap.size, 17, none⟩ = some (.int .i64 (T : Int)) := by rw [← et]; exact RB1.out.cell 17
  have a18 : W1.cell? ⟨w.heap.size, 18, none⟩ = some (.int .i64 (Bt : Int)) := by rw [← eb]; exact RB1.out.cell 18
  have row1 := RB1.out.of
  have hle : (0 : Int) ≤ (Bt : Int) - (T : Int) := by omega
  have hwr : IntKind.i64.wrap ((Bt : Int) - (T : Int)) = (Bt : Int) - (T : Int) := IntWalk.i64_in _ (by omega)
  clear ho hR hal0
  cases hk : keepsB s.data
  · have HF := Lib.hid (show roll1D s.data = putD s.data R from by unfold roll1D; rw [hk, if_neg (by decide), HRD.out]; rfl)
    have HGR := Lib.hid (fun W0 (h : OwnS W0 B s) => HGR0.out W0 s.bA s.bk s.rows h)
    clear HGR0
    cases hal : s.onAlt
    · have hT0 : ¬ (T : Int) = 0 := by
        unfold keepsB at hk
        rw [show s.data.onAlt = s.onAlt from rfl, hal, show s.data.top = (T : Int) from et] at hk
        simpa using hk
      rw [hal] at a8
      clear hk hok fit et eb
      go_enter Try.func100, Try.ntmps100
      go_upto_region 1 with fail
      rw [← hW]
      clear hW hal
      go_wp2_with fail
      refine wp_loop_rounds 1 ?_
      rw [rounds_succ]
      go_wp2_with fail
      clear a8 a17 a18 hT0 row1
      go_region_held3 (fun w' => rowOf w' w.heap.size = scrA s ∧ (w'.cell? ⟨w.heap.size, 17, none⟩ = some (.int .i64 s.top) ∧ w'.cell? ⟨w.heap.size, 18, none⟩ = some (.int .i64 s.bot))) (first | assumption | (exact ⟨RB1.out.of, RB1.out.cell 17, RB1.out.cell 18⟩) | (exact ⟨RS1.out.of, RS1.out.cell 17, RS1.out.cell 18⟩) | (exact ⟨RS2.out.of, RS2.out.cell 17, RS2.out.cell 18⟩) | (exact ⟨RS3.out.of, RS3.out.cell 17, RS3.out.cell 18⟩) | (exact ⟨(RS3.out.row_other (by omega)).of, (RS3.out.row_other (by omega)).cell 17, (RS3.out.row_other (by omega)).cell 18⟩) | go_keep) (first
        | (go_at_call 74; (with_reducible refine (l09Shown_any s _).mono ?_); rintro e y1 ⟨rfl, hb1'⟩; have hb1 : Below W1.heap.size W1 y1 := undrew hb1'; have RS1 := Lib.hid (RB1.out.below hb1 RB1.out.lt); have Z31 := Lib.hid (RZ1.out.below hb1 RZ1.out.lt); have H31 := Lib.hid (BB1.out.trans (Only.below hb1 (Nat.le_refl _))); have O31 := Lib.hid (OO1.out.below (Nat.le_refl _) hb1); have z31 := hb1.size; clear hb1 hb1')
        | (go_at_call 123; (with_reducible refine (HGR.out y1 O31.out).mono ?_); rintro e y2 ⟨A9, c9, rfl, ho9, hb2⟩; have RS2 := Lib.hid (RS1.out.below hb2 RS1.out.lt); have Z32 := Lib.hid (Z31.out.below hb2 Z31.out.lt); have H32 := Lib.hid (H31.out.trans (Only.below hb2 (Nat.le_refl _))); have O32 := Lib.hid (own_put (gw := shW s) (gh := shH s) O31.out hb2 ho9 (by omega)); have z32 := hb2.size; clear hb2 ho9)
        | (go_at_call 73; (with_reducible refine (l09Put_any s (shW s) (shH s) A9 c9 R _).mono ?_); rintro e y3 ⟨rfl, hb3⟩; have RS3 := Lib.hid (RS2.out.below hb3 RS2.out.lt); have Z33 := Lib.hid (Z32.out.below hb3 Z32.out.lt); have H33 := Lib.hid (H32.out.trans (Only.below hb3 (Nat.le_refl _))); have O33 := Lib.hid (O32.out.below (Nat.le_refl _) hb3); have rz33 : RowZ y3 (w.heap.size + 1) 31 := RowZ.of Z33.out.row 31 rfl; clear hb3))
      all_goals
        go_wp2_with fail
        refine bodyPost_ret (v := .agg (scrA (putS s (shW s) (shH s) ⟨A9, c9, R⟩))) (res55 Try.results100 _ _ (w.heap.size + 1) _ (by simp) (Z33.out.row.setRow) rfl) rfl ⟨_, rfl, ?_, ?_, ?_⟩
        · exact O33.out.keepRow (w.heap.size + 1) _ (.inr (Z33.out.apart O33.out))
        · rw [HF.out]; exact put_data
        · exact Only.row_new H33.out _ _ (by omega)
    · rw [hal] at a8
      clear hk hok fit et eb
      go_enter Try.func100, Try.ntmps100
      go_upto_region 1 with fail
      rw [← hW]
      clear hW hal
      go_wp2_with fail
      refine wp_loop_rounds 1 ?_
      rw [rounds_succ]
      go_wp2_with fail
      clear a8 a17 a18 row1
      go_region_held3 (fun w' => rowOf w' w.heap.size = scrA s ∧ (w'.cell? ⟨w.heap.size, 17, none⟩ = some (.int .i64 s.top) ∧ w'.cell? ⟨w.heap.size, 18, none⟩ = some (.int .i64 s.bot))) (first | assumption | (exact ⟨RB1.out.of, RB1.out.cell 17, RB1.out.cell 18⟩) | (exact ⟨RS1.out.of, RS1.out.cell 17, RS1.out.cell 18⟩) | (exact ⟨RS2.out.of, RS2.out.cell 17, RS2.out.cell 18⟩) | (exact ⟨RS3.out.of, RS3.out.cell 17, RS3.out.cell 18⟩) | (exact ⟨(RS3.out.row_other (by omega)).of, (RS3.out.row_other (by omega)).cell 17, (RS3.out.row_other (by omega)).cell 18⟩) | go_keep) (first
        | (go_at_call 74; (with_reducible refine (l09Shown_any s _).mono ?_); rintro e y1 ⟨rfl, hb1'⟩; have hb1 : Below W1.heap.size W1 y1 := undrew hb1'; have RS1 := Lib.hid (RB1.out.below hb1 RB1.out.lt); have Z31 := Lib.hid (RZ1.out.below hb1 RZ1.out.lt); have H31 := Lib.hid (BB1.out.trans (Only.below hb1 (Nat.le_refl _))); have O31 := Lib.hid (OO1.out.below (Nat.le_refl _) hb1); have z31 := hb1.size; clear hb1 hb1')
        | (go_at_call 123; (with_reducible refine (HGR.out y1 O31.out).mono ?_); rintro e y2 ⟨A9, c9, rfl, ho9, hb2⟩; have RS2 := Lib.hid (RS1.out.below hb2 RS1.out.lt); have Z32 := Lib.hid (Z31.out.below hb2 Z31.out.lt); have H32 := Lib.hid (H31.out.trans (Only.below hb2 (Nat.le_refl _))); have O32 := Lib.hid (own_put (gw := shW s) (gh := shH s) O31.out hb2 ho9 (by omega)); have z32 := hb2.size; clear hb2 ho9)
        | (go_at_call 73; (with_reducible refine (l09Put_any s (shW s) (shH s) A9 c9 R _).mono ?_); rintro e y3 ⟨rfl, hb3⟩; have RS3 := Lib.hid (RS2.out.below hb3 RS2.out.lt); have Z33 := Lib.hid (Z32.out.below hb3 Z32.out.lt); have H33 := Lib.hid (H32.out.trans (Only.below hb3 (Nat.le_refl _))); have O33 := Lib.hid (O32.out.below (Nat.le_refl _) hb3); have rz33 : RowZ y3 (w.heap.size + 1) 31 := RowZ.of Z33.out.row 31 rfl; clear hb3))
      all_goals
        go_wp2_with fail
        refine bodyPost_ret (v := .agg (scrA (putS s (shW s) (shH s) ⟨A9, c9, R⟩))) (res55 Try.results100 _ _ (w.heap.size + 1) _ (by simp) (Z33.out.row.setRow) rfl) rfl ⟨_, rfl, ?_, ?_, ?_⟩
        · exact O33.out.keepRow (w.heap.size + 1) _ (.inr (Z33.out.apart O33.out))
        · rw [HF.out]; exact put_data
        · exact Only.row_new H33.out _ _ (by omega)
  · unfold keepsB at hk
    rw [Bool.and_eq_true] at hk
    have hal : s.onAlt = false := by have h := hk.1; rw [show s.data.onAlt = s.onAlt from rfl] at h; simpa using h
    have hT0 : (T : Int) = 0 := by have h := of_decide_eq_true hk.2; have h' : s.top = 0 := h; omega
    have hkb : keepsB s.data = true := by unfold keepsB; rw [Bool.and_eq_true]; exact hk
    have HF := Lib.hid (show roll1D s.data = putD (keepD s.data 0) R from by unfold roll1D; rw [hkb, if_pos rfl, HRD.out]; rfl)
    have hrl : s.rows.length ≤ L := by have h := fit.rl; rw [show s.data.rows.length = s.rows.length from List.length_map _] at h; exact h
    have hml : s.M.cs.length = wd * hh := fit.ml
    have hy : 0 * wd + wd ≤ s.M.cs.length := by rw [hml, Nat.zero_mul, Nat.zero_add]; exact Nat.le_mul_of_pos_right _ (by have := fit.h1; omega)
    have hmn : s.M.cs.length ≤ 1048576 := by rw [hml]; have := fit.wh; omega
    have HKP := Lib.hid (show Calls Try.prog 81 #[.agg (scrA s), .int .i64 0] W1 _ from HKC s B W1 wd 0 L OO1.out fit.w fit.w1 hy (by omega) hmn fit.lim fit.l2 hrl hBW)
    have HW := Lib.hid (show s.data.w.toNat = wd from by rw [fit.w]; rfl)
    have HL := Lib.hid (show s.data.lim.toNat = L from by rw [fit.lim]; rfl)
    have HET := Lib.hid et
    have HEB := Lib.hid eb
    rw [hal] at a8
    clear hk hok fit et eb hkb hml hy hmn hrl
    go_enter Try.func100, Try.ntmps100
    go_upto_region 1 with fail
    rw [← hW]
    clear hW hal
    go_wp2_with fail
    refine wp_loop_rounds 2 ?_
    rw [rounds_succ]
    go_wp2_with fail
    refine HKP.out.mono ?_
    rintro e v ⟨A, c, gs, rfl, hO, hmp, hon⟩
    have hns : ∀ b, ¬ SS s b → ¬ (Value.slice s.bA s.rows.length s.bk).ownBlock = some b := fun b h e => h (.inr (.inr e))
    have RB2 := Lib.hid (RB1.out.only hon (hns _ (RB1.out.apart OO1.out)))
    have RZ2 := Lib.hid (RZ1.out.only hon (hns _ (RZ1.out.apart OO1.out)))
    have BB2 := Lib.hid (show Only (BkS s) w v from BB1.out.trans hon)
    have OO2 := Lib.hid hO
    have HDT := Lib.hid (show ({ s with bA := A, bk := c, rows := gs } : ScrS).data = keepD s.data 0 from by
      unfold keepD rowD
      rw [HW.out, HL.out]
      unfold ScrS.data
      rw [hmp])
    have rz2 : RowZ v w.heap.size 31 := RowZ.of RB2.out.row 31 rfl
    have hvs : W1.heap.size ≤ v.heap.size := hon.size
    clear hO hmp hon HKP hT0 a8 a17 a18 row1 RB1 RZ1 BB1 OO1
    go_wp2_with fail
    rw [rounds_succ]
    go_wp2_with fail
    obtain ⟨w5, hw5⟩ : ∃ x, x = v.setRow w.heap.size (scrA { s with bA := A, bk := c, rows := gs }) := ⟨_, rfl⟩
    have RB5 := Lib.hid (show RowS w5 w.heap.size { s with bA := A, bk := c, rows := gs } from by rw [hw5]; exact RB2.out.store)
    have RZ5 := Lib.hid (show RowS w5 (w.heap.size + 1) zeroS from by rw [hw5]; exact RZ2.out.row_other (by omega))
    have BB5 := Lib.hid (show Only (BkS s) w w5 from by rw [hw5]; exact Only.row_new BB2.out _ _ (Nat.le_refl _))
    have OO5 := Lib.hid (show OwnS w5 B { s with bA := A, bk := c, rows := gs } from by rw [hw5]; exact OO2.out.keepRow _ _ (.inr (RB2.out.apart OO2.out)))
    have hsz5 : w5.heap.size = v.heap.size := by rw [hw5]; simp
    rw [← hw5]
    have hBW1 := hBW
    clear hBW hw5 rz2
    have hBW : B ≤ w5.heap.size := by omega
    have HGR := Lib.hid (fun W0 (h : OwnS W0 B { s with bA := A, bk := c, rows := gs }) => show Calls Try.prog 123 #[.agg #[.int .i64 (shW { s with bA := A, bk := c, rows := gs }), .int .i64 (shH { s with bA := A, bk := c, rows := gs }), .slice (shC { s with bA := A, bk := c, rows := gs }).A (shC { s with bA := A, bk := c, rows := gs }).cs.length (shC { s with bA := A, bk := c, rows := gs }).c], .int .i64 s.top, .int .i64 s.bot, .int .i64 1] W0 (fun e w' => ∃ A7 c7, e = .returned (.agg #[.int .i64 (shW { s with bA := A, bk := c, rows := gs }), .int .i64 (shH { s with bA := A, bk := c, rows := gs }), .slice A7 R.length c7]) ∧ OwnC w' W0.heap.size A7 R.length c7 R ∧ Below W0.heap.size W0 w') from HGR0.out W0 A c gs h)
    go_region_held3 (fun w' => rowOf w' w.heap.size = scrA { s with bA := A, bk := c, rows := gs } ∧ (w'.cell? ⟨w.heap.size, 17, none⟩ = some (.int .i64 { s with bA := A, bk := c, rows := gs }.top) ∧ w'.cell? ⟨w.heap.size, 18, none⟩ = some (.int .i64 { s with bA := A, bk := c, rows := gs }.bot))) (first | assumption | (exact ⟨RB5.out.of, RB5.out.cell 17, RB5.out.cell 18⟩) | (exact ⟨RS1.out.of, RS1.out.cell 17, RS1.out.cell 18⟩) | (exact ⟨RS2.out.of, RS2.out.cell 17, RS2.out.cell 18⟩) | (exact ⟨RS3.out.of, RS3.out.cell 17, RS3.out.cell 18⟩) | (exact ⟨(RS3.out.row_other (by omega)).of, (RS3.out.row_other (by omega)).cell 17, (RS3.out.row_other (by omega)).cell 18⟩) | go_keep) (first
      | (go_at_call 74; (with_reducible refine (l09Shown_any { s with bA := A, bk := c, rows := gs } _).mono ?_); rintro e y1 ⟨rfl, hb1'⟩; have hb1 : Below w5.heap.size w5 y1 := undrew hb1'; have RS1 := Lib.hid (RB5.out.below hb1 RB5.out.lt); have Z31 := Lib.hid (RZ5.out.below hb1 RZ5.out.lt); have H31 := Lib.hid (BB5.out.trans (Only.below hb1 (Nat.le_refl _))); have O31 := Lib.hid (OO5.out.below (Nat.le_refl _) hb1); have z31 := hb1.size; clear hb1 hb1')
      | (go_at_call 123; (with_reducible refine (HGR.out y1 O31.out).mono ?_); rintro e y2 ⟨A9, c9, rfl, ho9, hb2⟩; have RS2 := Lib.hid (RS1.out.below hb2 RS1.out.lt); have Z32 := Lib.hid (Z31.out.below hb2 Z31.out.lt); have H32 := Lib.hid (H31.out.trans (Only.below hb2 (Nat.le_refl _))); have O32 := Lib.hid (own_put (gw := shW { s with bA := A, bk := c, rows := gs }) (gh := shH { s with bA := A, bk := c, rows := gs }) O31.out hb2 ho9 (by omega)); have z32 := hb2.size; clear hb2 ho9)
      | (go_at_call 73; (with_reducible refine (l09Put_any { s with bA := A, bk := c, rows := gs } (shW { s with bA := A, bk := c, rows := gs }) (shH { s with bA := A, bk := c, rows := gs }) A9 c9 R _).mono ?_); rintro e y3 ⟨rfl, hb3⟩; have RS3 := Lib.hid (RS2.out.below hb3 RS2.out.lt); have Z33 := Lib.hid (Z32.out.below hb3 Z32.out.lt); have H33 := Lib.hid (H32.out.trans (Only.below hb3 (Nat.le_refl _))); have O33 := Lib.hid (O32.out.below (Nat.le_refl _) hb3); have rz33 : RowZ y3 (w.heap.size + 1) 31 := RowZ.of Z33.out.row 31 rfl; clear hb3))
    all_goals
      go_wp2_with fail
      refine bodyPost_ret (v := .agg (scrA (putS { s with bA := A, bk := c, rows := gs } (shW { s with bA := A, bk := c, rows := gs }) (shH { s with bA := A, bk := c, rows := gs }) ⟨A9, c9, R⟩))) (res55 Try.results100 _ _ (w.heap.size + 1) _ (by simp) (Z33.out.row.setRow) rfl) rfl ⟨_, rfl, ?_, ?_, ?_⟩
      · exact O33.out.keepRow (w.heap.size + 1) _ (.inr (Z33.out.apart O33.out))
      · rw [HF.out]; refine (put_data (t := { s with bA := A, bk := c, rows := gs }) (A := A9) (c := c9) (cs := R)).trans ?_; rw [HDT.out]
      · exact Only.row_new H33.out _ _ (by omega)
set_option maxRecDepth 100000 in
set_option maxHeartbeats 3200000 in
theorem ok_wrap {d : ScrD} (h : okD d = true) : okD { d with wrap := false } = true := by
  obtain ⟨c1, ⟨x1, x2, x3, x4, x5, x6⟩, c5, ct, cr⟩ := okD_iff.1 h
  exact okD_iff.2 ⟨c1, ⟨x1, x2, x3, x4, (fun h => by cases h), x6⟩, c5, ct, cr⟩
theorem l09Down_any (HKC : KeepC) (s : ScrS) (B : Nat) (w : World) (hB : B ≤ w.heap.size) (ho : OwnS w B s) (hok : okD s.data = true) :
    Calls Try.prog 59 #[.agg (scrA s)] w (AnsB (BkS s) B (downD s.data) w) := by
  obtain ⟨wd, hh, X, Y, T, Bt, L, fit⟩ := ok_fit hok
  have ey : s.y = (Y : Int) := fit.y
  have eb : s.bot = (Bt : Int) := fit.bot
  have eh : s.h = (hh : Int) := fit.h
  have hy2 := fit.y2
  have hh2 := fit.h2
  obtain ⟨W1, hW⟩ : ∃ W, W = (w.alloc (.cells (scrA s) 53)).alloc (.cells #[.int .i64 0, .int .i64 0, .int .i64 0, .int .i64 0, .slice none 0 0, .int .i64 0, .int .i64 0, .slice none 0 0, .bool false, .int .i64 0, .int .i64 0, .bool false, .int .i64 0, .int .i64 0, .bool false, .bool false, .bool false, .int .i64 0, .int .i64 0, .bool false, .bool false, .int .i64 0, .int .i64 0, .int .i64 0, .int .i64 0, .bool false, .bool false, .bool false, .slice none 0 0, .int .i64 0, .slice none 0 0] 53) := ⟨_, rfl⟩
  have RB1 := Lib.hid (show RowS W1 w.heap.size s from by rw [hW]; exact (RowS.new w s).alloc _)
  have RZ1 := Lib.hid (show RowS W1 (w.heap.size + 1) zeroS from by
    rw [hW]
    have h := RowS.new (w.alloc (.cells (scrA s) 53)) zeroS
    rw [World.size_alloc] at h; exact h)
  have hal0 : Below w.heap.size w W1 := by rw [hW]; exact ((Below.refl w.heap.size w).alloc (Nat.le_refl _) _).alloc (by simp) _
  have RB2 := Lib.hid (show RowS (W1.setCell ⟨w.heap.size, 11, none⟩ (.bool false)) w.heap.size { s with wrap := false } from RB1.out.s_wrap)
  have RZ2 := Lib.hid (show RowS (W1.setCell ⟨w.heap.size, 11, none⟩ (.bool false)) (w.heap.size + 1) zeroS from RZ1.out.other (by simp))
  have BB2 := Lib.hid (show Only (BkS s) w (W1.setCell ⟨w.heap.size, 11, none⟩ (.bool false)) from Only.below (hal0.setCell (by simp) _) (Nat.le_refl _))
  have OO2 := Lib.hid (show OwnS (W1.setCell ⟨w.heap.size, 11, none⟩ (.bool false)) B { s with wrap := false } from by
    have h := (ho.below (Nat.le_refl _) hal0).only (S := fun i => i = w.heap.size) (Only.cell_ W1 w.heap.size 11 (.bool false) rfl) (fun i hi e => by subst e; exact RB1.out.apart (ho.below (Nat.le_refl _) hal0) hi)
    exact ⟨h.c, h.t, h.r⟩)
  have hsz : B ≤ (W1.setCell ⟨w.heap.size, 11, none⟩ (.bool false)).heap.size := by have := hal0.size; simp; omega
  have a11 : W1.cell? ⟨w.heap.size, 11, none⟩ = some (.bool s.wrap) := RB1.out.cell 11
  have a10 : W1.cell? ⟨w.heap.size, 10, none⟩ = some (.int .i64 (Y : Int)) := by rw [← ey]; exact RB1.out.cell 10
  have a18 : W1.cell? ⟨w.heap.size, 18, none⟩ = some (.int .i64 (Bt : Int)) := by rw [← eb]; exact RB1.out.cell 18
  have a1 : W1.cell? ⟨w.heap.size, 1, none⟩ = some (.int .i64 (hh : Int)) := by rw [← eh]; exact RB1.out.cell 1
  have hf := RB1.out.free
  have row2 := RB2.out.of
  have HOKW := Lib.hid (ok_wrap hok)
  clear ho hal0
  by_cases hyb : (Y : Int) = (Bt : Int)
  · have HU := Lib.hid (show downD s.data = roll1D { s.data with wrap := false } from by unfold downD; rw [if_pos (show s.data.y = s.data.bot from by show s.y = s.bot; rw [ey, eb, hyb])])
    have HRO := Lib.hid (l09Roll_any HKC { s with wrap := false } B _ hsz OO2.out HOKW.out)
    rw [hyb] at a10
    clear hok fit ey eb eh hyb hsz
    go_enter Try.func59, Try.ntmps59
    go_upto_region 1 with fail
    rw [← hW]
    clear hW
    go_wp2_with fail
    refine HRO.out.mono ?_
    rintro e v ⟨t, rfl, hO, hd, hon⟩
    have RZ3 := Lib.hid (RZ2.out.only hon (fun e => RZ2.out.apart OO2.out (.inr (.inr e))))
    have HO := Lib.hid hO
    have HD := Lib.hid hd
    have BB3 := Lib.hid (BB2.out.trans hon)
    have rz3 : RowZ v (w.heap.size + 1) 31 := RowZ.of RZ3.out.row 31 rfl
    clear hO hd hon HRO row2 a1 a10 a11 a18 hf
    go_wp2_with fail
    refine bodyPost_ret (v := .agg (scrA t)) (res55 Try.results59 _ _ (w.heap.size + 1) _ (by simp) (RZ3.out.row.setRow) rfl) rfl ⟨t, rfl, ?_, ?_, ?_⟩
    · exact HO.out.keepRow (w.heap.size + 1) _ (.inr (RZ3.out.apart HO.out))
    · rw [HU.out]; exact HD.out
    · exact Only.row_new BB3.out _ _ (by omega)
  · have HU := Lib.hid (show downD s.data = { s.data with wrap := false, y := min ((Y : Int) + 1) ((hh : Int) - 1) } from by
      unfold downD
      rw [if_neg (show ¬ s.data.y = s.data.bot from by show ¬ s.y = s.bot; rw [ey, eb]; exact hyb)]
      have e1 : min (s.data.y + 1) (s.data.h - 1) = min ((Y : Int) + 1) ((hh : Int) - 1) := by rw [show s.data.y = (Y : Int) from ey, show s.data.h = (hh : Int) from eh]
      rw [e1])
    have HEY := Lib.hid ey
    clear hok fit ey eb eh HOKW
    by_cases hlt : (Y : Int) < (hh : Int) - 1
    · have RBE := Lib.hid (show RowS ((W1.setCell ⟨w.heap.size, 11, none⟩ (.bool false)).setCell ⟨w.heap.size, 10, none⟩ (.int .i64 ((Y : Int) + 1))) w.heap.size { s with wrap := false, y := (Y : Int) + 1 } from RB2.out.s_y)
      have RZE := Lib.hid (show RowS ((W1.setCell ⟨w.heap.size, 11, none⟩ (.bool false)).setCell ⟨w.heap.size, 10, none⟩ (.int .i64 ((Y : Int) + 1))) (w.heap.size + 1) zeroS from RZ2.out.other (by simp))
      have OEE := Lib.hid (show OwnS ((W1.setCell ⟨w.heap.size, 11, none⟩ (.bool false)).setCell ⟨w.heap.size, 10, none⟩ (.int .i64 ((Y : Int) + 1))) B { s with wrap := false, y := (Y : Int) + 1 } from by
        have h := OO2.out.only (S := fun i => i = w.heap.size) (Only.cell_ (W1.setCell ⟨w.heap.size, 11, none⟩ (.bool false)) w.heap.size 10 (.int .i64 ((Y : Int) + 1)) rfl) (fun i hi e => by subst e; exact RB2.out.apart OO2.out hi)
        exact ⟨h.c, h.t, h.r⟩)
      have BBE := Lib.hid (show Only (BkS s) w ((W1.setCell ⟨w.heap.size, 11, none⟩ (.bool false)).setCell ⟨w.heap.size, 10, none⟩ (.int .i64 ((Y : Int) + 1))) from Only.cell_new BB2.out _ _ _ (Nat.le_refl _))
      have rowe := RBE.out.of
      have rze : RowZ ((W1.setCell ⟨w.heap.size, 11, none⟩ (.bool false)).setCell ⟨w.heap.size, 10, none⟩ (.int .i64 ((Y : Int) + 1))) (w.heap.size + 1) 31 := RowZ.of RZE.out.row 31 rfl
      clear row2
      go_enter Try.func59, Try.ntmps59
      go_upto_region 1 with fail
      rw [← hW]
      clear hW
      go_wp2_with fail
      refine bodyPost_ret (v := .agg (scrA { s with wrap := false, y := (Y : Int) + 1 })) (res55 Try.results59 _ _ (w.heap.size + 1) _ (by simp) (RZE.out.row.setRow) rfl) rfl ⟨{ s with wrap := false, y := (Y : Int) + 1 }, rfl, ?_, ?_, ?_⟩
      · exact OEE.out.keepRow (w.heap.size + 1) _ (.inr (RZE.out.apart OEE.out))
      · rw [HU.out, show min ((Y : Int) + 1) ((hh : Int) - 1) = (Y : Int) + 1 by omega]; rfl
      · exact Only.row_new BBE.out _ _ (by omega)
    · have RZE := RZ2
      have OEE := OO2
      have BBE := BB2
      have rze : RowZ (W1.setCell ⟨w.heap.size, 11, none⟩ (.bool false)) (w.heap.size + 1) 31 := RowZ.of RZE.out.row 31 rfl
      go_enter Try.func59, Try.ntmps59
      go_upto_region 1 with fail
      rw [← hW]
      clear hW
      go_wp2_with fail
      refine bodyPost_ret (v := .agg (scrA { s with wrap := false })) (res55 Try.results59 _ _ (w.heap.size + 1) _ (by simp) (RZE.out.row.setRow) rfl) rfl ⟨{ s with wrap := false }, rfl, ?_, ?_, ?_⟩
      · exact OEE.out.keepRow (w.heap.size + 1) _ (.inr (RZE.out.apart OEE.out))
      · rw [HU.out, show min ((Y : Int) + 1) ((hh : Int) - 1) = s.data.y from by show _ = s.y; rw [HEY.out]; omega]; rfl
      · exact Only.row_new BBE.out _ _ (by omega)
end Go.Proofs.Ythlpchojlddnbaa.Sc

