/- Texts that lay in modules of their own: ScUD, KiY. -/
import Derived.Test.YtgnpgkkjcloghaaGreatShelf
import Derived.Test.YtgnpgkkjcloghaaGreatKiS
import Derived.Test.YtgnpgkkjcloghaaGreatKm11
import Derived.Test.YtgnpgkkjcloghaaGreatKiRO
set_option maxRecDepth 100000
set_option maxHeartbeats 3200000
set_option linter.unusedVariables false
namespace Go.Proofs.YtgnpgkkjcloghaaGreat.Sc
open Lib
open Go.RowKit Bytes Rows_ RowK Gr DOk Opq Attr
attribute [local go_sem ↓] Sc.exec_storeS Sc.exec_loadS
attribute [local go_sem] rowOf_drew blkOf_ptr isHead_ptr aggN_agg setRow_alloc rowZ_at rowZ_past scrA_size one_scr rowOf_alloc_at rowOf_alloc_past
attribute [local go_sem] sa_w sa_h sa_mw sa_mh sa_M sa_aw sa_ah sa_A sa_onAlt sa_x sa_y sa_wrap sa_fg sa_bg sa_b sa_u sa_t sa_top sa_bot sa_noWrap sa_hide sa_sx sa_sy sa_sfg sa_sbg sa_sb sa_su sa_st sa_tabs sa_lim sa_rows
attribute [local go_sem] scr_at0 scr_at1 scr_at2 scr_at3 scr_at4 scr_at5 scr_at6 scr_at7 scr_at8 scr_at9 scr_at10 scr_at11 scr_at12 scr_at13 scr_at14 scr_at15 scr_at16 scr_at17 scr_at18 scr_at19 scr_at20 scr_at21 scr_at22 scr_at23 scr_at24 scr_at25 scr_at26 scr_at27 scr_at28 scr_at29 scr_at30
def KeepC : Prop := ∀ (t : ScrS) (B : Nat) (w : World) (W y L : Nat), OwnS w B t → t.w = (W : Int) → 1 ≤ W → y * W + W ≤ t.M.cs.length → y ≤ 1000 → t.M.cs.length ≤ 1048576 → t.lim = (L : Int) → L ≤ 100 → t.rows.length ≤ L → B ≤ w.heap.size →
  Calls Tryz.prog 70 #[.agg (scrA t), .int .i64 (y : Int)] w fun e w' => ∃ A c gs, e = .returned (.agg (scrA { t with bA := A, bk := c, rows := gs })) ∧ OwnS w' B { t with bA := A, bk := c, rows := gs } ∧ gs.map (·.cs) = keepL L (t.rows.map (·.cs)) ((t.M.cs.drop (y * W)).take W) ∧ Only (fun i => (Value.slice t.bA t.rows.length t.bk).ownBlock = some i) w w'
theorem RowS.ne {w : World} {b base K n : Nat} {s : ScrS} {E : TypeId} {v : Value} {xs : List Value} (h : RowS w b s) (h' : w.ownsRow base E K v n xs) (hE : E ≠ 38) : v.ownBlock ≠ some b := by
  intro e
  rcases h'.2 with ⟨rfl, _⟩ | ⟨g, cap, cur, rfl, _, hg, _⟩
  · cases e
  · simp [Value.ownBlock] at e; subst e
    unfold RowS at h; rw [hg] at h; injection h with h; injection h with h1 h2; exact hE h2
theorem RowS.apart {w : World} {b base : Nat} {s t : ScrS} (h : RowS w b s) (h' : OwnS w base t) : ¬ SS t b := by
  rintro (⟨r, hr, hi⟩ | hi | hi)
  · exact h.ne (h'.c.1 r hr) (by decide) hi
  · exact h.ne h'.t (by decide) hi
  · rcases h'.r.2 with ⟨e, _⟩ | ⟨g, p, cur, e, _, hg, _⟩
    · rw [e] at hi; cases hi
    · rw [e] at hi
      simp [Value.ownBlock] at hi; subst hi
      unfold RowS at h; rw [hg] at h; injection h with h; injection h with h1 h2; exact absurd h2 (by decide)
theorem OwnS.keepRow {w : World} {B : Nat} {s : ScrS} (h : OwnS w B s) (b : Nat) (D : Array Value) (hn : b < B ∨ ¬ SS s b) : OwnS (w.setRow b D) B s := h.only (S := fun i => i = b) (only_setRow w b D rfl) (fun i hi e => by
  subst e
  rcases hn with hn | hn
  · have := (h.blk i hi).1; omega
  · exact hn hi)
def BkS (s : ScrS) (i : Nat) : Prop := (Value.slice s.bA s.rows.length s.bk).ownBlock = some i
theorem Only.row_new {S : Nat → Prop} {w V : World} (h : Only S w V) (b : Nat) (D : Array Value) (hb : w.heap.size ≤ b) : Only S w (V.setRow b D) := ⟨h.os, h.tape, h.output, by simp; exact h.size, fun i hi hn => by rw [Go.setRow_other V b i D (by omega)]; exact h.block i hi hn⟩
theorem Only.cell_new {S : Nat → Prop} {w V : World} (h : Only S w V) (b j : Nat) (v : Value) (hb : w.heap.size ≤ b) : Only S w (V.setCell ⟨b, j, none⟩ v) := ⟨h.os, h.tape, h.output, by simp; exact h.size, fun i hi hn => by rw [heap_setCell_other _ _ _ _ (show i ≠ b by omega)]; exact h.block i hi hn⟩
end Go.Proofs.YtgnpgkkjcloghaaGreat.Sc
namespace Go.Proofs.YtgnpgkkjcloghaaGreat.Sc
open Lib
open Go.RowKit Bytes Rows_ RowK Gr DOk
theorem cell_heap {w : World} {b : Nat} {C : Array Value} {E : TypeId} {fz : Nat × Nat} (h : w.heap[b]? = some (.cells C E fz)) (j : Nat) : w.cell? ⟨b, j, none⟩ = C[j]? := by simp [World.cell?, h]
theorem take_of_cells {w : World} {b m : Nat} {D : Array Value} {E : TypeId} {xs : List Value} (hD : w.heap[b]? = some (.cells D E (0, 0))) (hl : xs.length = m) (hs : m ≤ D.size) (hc : ∀ j, j < m → w.cell? ⟨b, j, none⟩ = xs[j]?) : D.toList.take m = xs := by
  refine List.ext_getElem? fun j => ?_
  by_cases hj : j < m
  · rw [List.getElem?_take, if_pos hj, ← hc j hj]
    simp [World.cell?, hD]
  · rw [List.getElem?_eq_none (by simp; omega), List.getElem?_eq_none (by omega)]
theorem ownI_of {w : World} {base b m c : Nat} {D : Array Value} {zs : List Int} (hD : w.heap[b]? = some (.cells D 3 (0, 0))) (hb : base ≤ b) (hl : zs.length = m) (hmc : m ≤ c) (hcm : c ≤ maxLen) (hs : D.size = c) (hc : ∀ j, j < m → w.cell? ⟨b, j, none⟩ = (iv zs)[j]?) : OwnI w base (some ⟨b, 0, none⟩) m c zs :=
  ⟨by simp [iv, hl], .inr ⟨b, c, D, rfl, hb, hD, hmc, hcm, by omega, by rw [Nat.mul_one]; exact take_of_cells hD (by simp [iv, hl]) (by omega) hc⟩⟩
end Go.Proofs.YtgnpgkkjcloghaaGreat.Sc
namespace Go.Proofs.YtgnpgkkjcloghaaGreat.Sc
open Lib
open Go.RowKit Bytes Rows_ RowK Gr DOk Opq Attr
attribute [local go_sem ↓] Sc.exec_storeS Sc.exec_loadS
attribute [local go_sem] blkOf_ptr isHead_ptr aggN_agg setRow_alloc rowZ_at rowZ_past scrA_size nsA_size one_scr rowOf_alloc_at rowOf_alloc_past rowOf_drew ns_pre
attribute [local go_sem] sa_w sa_h sa_mw sa_mh sa_M sa_aw sa_ah sa_A sa_onAlt sa_x sa_y sa_wrap sa_fg sa_bg sa_b sa_u sa_t sa_top sa_bot sa_noWrap sa_hide sa_sx sa_sy sa_sfg sa_sbg sa_sb sa_su sa_st sa_tabs sa_lim sa_rows
attribute [local go_sem] ns_w ns_h ns_mw ns_mh ns_M ns_aw ns_ah ns_A ns_onAlt ns_x ns_y ns_wrap ns_fg ns_bg ns_b ns_u ns_t ns_top ns_bot ns_noWrap ns_hide ns_sx ns_sy ns_sfg ns_sbg ns_sb ns_su ns_st ns_tabs ns_lim ns_rows
attribute [local go_sem] ns_at0 ns_at1 ns_at2 ns_at3 ns_at4 ns_at5 ns_at6 ns_at7 ns_at8 ns_at9 ns_at10 ns_at11 ns_at12 ns_at13 ns_at14 ns_at15 ns_at16 ns_at17 ns_at18 ns_at19 ns_at20 ns_at21 ns_at22 ns_at23 ns_at24 ns_at25 ns_at26 ns_at27 ns_at28 ns_at29 ns_at30 ns_at31 ns_at32 ns_at33 ns_at34 ns_at35 ns_at36 ns_at37
attribute [local go_sem] scr_at0 scr_at1 scr_at2 scr_at3 scr_at4 scr_at5 scr_at6 scr_at7 scr_at8 scr_at9 scr_at10 scr_at11 scr_at12 scr_at13 scr_at14 scr_at15 scr_at16 scr_at17 scr_at18 scr_at19 scr_at20 scr_at21 scr_at22 scr_at23 scr_at24 scr_at25 scr_at26 scr_at27 scr_at28 scr_at29 scr_at30
def savS (t : ScrS) : ScrS := { t with sx := t.x, sy := t.y, sfg := t.fg, sbg := t.bg, sb := t.b, su := t.u, st := t.t }
def bacS (t : ScrS) : ScrS := { t with x := clampD t.sx (t.w - 1), y := clampD t.sy (t.h - 1), wrap := false, fg := t.sfg, bg := t.sbg, b := t.sb, u := t.su, t := t.st }
theorem cell_keep {w : World} {g i j : Nat} {v u : Value} (h : w.cell? ⟨g, j, none⟩ = some u) (hne : i ≠ j) : (w.setCell ⟨g, i, none⟩ v).cell? ⟨g, j, none⟩ = some u := by rw [World.cell?_setCell_other _ _ _ _ (by intro e; injection e with e1 e2; exact hne e2)]; exact h
theorem cell_keepD {w : World} {a : Addr} {u : Value} (h : w.cell? a = some u) : w.drew.cell? a = some u := h
theorem only_drew_ {S : Nat → Prop} {w w' : World} (h : Only S w w') : Only S w w'.drew := ⟨h.os, h.tape, h.output, h.size, h.block⟩
theorem savS_row {w : World} {g : Nat} {t : ScrS} (h : RowN w g t) : RowN (((((((w.setCell ⟨g, 21, none⟩ (.int .i64 t.x)).setCell ⟨g, 22, none⟩ (.int .i64 t.y)).setCell ⟨g, 23, none⟩ (.int .i64 t.fg)).setCell ⟨g, 24, none⟩ (.int .i64 t.bg)).setCell ⟨g, 25, none⟩ (.bool t.b)).setCell ⟨g, 26, none⟩ (.bool t.u)).setCell ⟨g, 27, none⟩ (.bool t.t)) g (savS t) :=
  RowN.s_st (z := t.t) (RowN.s_su (z := t.u) (RowN.s_sb (z := t.b) (RowN.s_sbg (z := t.bg) (RowN.s_sfg (z := t.fg) (RowN.s_sy (z := t.y) (RowN.s_sx (z := t.x) h))))))
theorem savS_only (w : World) (g : Nat) (t : ScrS) : Only (fun i => i = g) w (((((((w.setCell ⟨g, 21, none⟩ (.int .i64 t.x)).setCell ⟨g, 22, none⟩ (.int .i64 t.y)).setCell ⟨g, 23, none⟩ (.int .i64 t.fg)).setCell ⟨g, 24, none⟩ (.int .i64 t.bg)).setCell ⟨g, 25, none⟩ (.bool t.b)).setCell ⟨g, 26, none⟩ (.bool t.u)).setCell ⟨g, 27, none⟩ (.bool t.t)) :=
  ((((((Only.cell_ (S := fun i => i = g) w g 21 (.int .i64 t.x) rfl).trans (Only.cell_ _ g 22 (.int .i64 t.y) rfl)).trans (Only.cell_ _ g 23 (.int .i64 t.fg) rfl)).trans (Only.cell_ _ g 24 (.int .i64 t.bg) rfl)).trans (Only.cell_ _ g 25 (.bool t.b) rfl)).trans (Only.cell_ _ g 26 (.bool t.u) rfl)).trans (Only.cell_ _ g 27 (.bool t.t) rfl)
theorem clampD_in {x m : Int} (h0 : 0 ≤ x) (h1 : x ≤ m) : clampD x m = x := by unfold clampD clampV; rw [if_neg (by omega), if_neg (by omega)]
theorem bacS_data {t : ScrS} (h : okD t.data = true) : (bacS t).data = backD t.data := by
  obtain ⟨_, ⟨_, _, _, _, _, s1, s2, s3, s4, _, _⟩, _⟩ := okD_iff.1 h
  have s1' : 0 ≤ t.sx := s1
  have s2' : t.sx < t.w := s2
  have s3' : 0 ≤ t.sy := s3
  have s4' : t.sy < t.h := s4
  have e1 : clampD t.sx (t.w - 1) = t.sx := clampD_in s1' (by omega)
  have e2 : clampD t.sy (t.h - 1) = t.sy := clampD_in s3' (by omega)
  unfold bacS
  rw [e1, e2]; rfl
theorem saveCursor_any (t : ScrS) (g : Nat) (w : World) (hg : RowN w g t) :
    Calls Tryz.prog 99 #[.pointer (some ⟨g, 0, none⟩)] w fun e w' => e = .returned (.tuple #[]) ∧ RowN w' g (savS t) ∧ Only (fun i => i = g) w w' := by
  have HG := hid hg
  have k9 : w.cell? ⟨g, 9, none⟩ = some (.int .i64 t.x) := hg.cell 9
  have k10 : w.cell? ⟨g, 10, none⟩ = some (.int .i64 t.y) := hg.cell 10
  have k12 : w.cell? ⟨g, 12, none⟩ = some (.int .i64 t.fg) := hg.cell 12
  have k13 : w.cell? ⟨g, 13, none⟩ = some (.int .i64 t.bg) := hg.cell 13
  have k14 : w.cell? ⟨g, 14, none⟩ = some (.bool t.b) := hg.cell 14
  have k15 : w.cell? ⟨g, 15, none⟩ = some (.bool t.u) := hg.cell 15
  have k16 : w.cell? ⟨g, 16, none⟩ = some (.bool t.t) := hg.cell 16
  have k21 : w.cell? ⟨g, 21, none⟩ = some (.int .i64 t.sx) := hg.cell 21
  have k22 : w.cell? ⟨g, 22, none⟩ = some (.int .i64 t.sy) := hg.cell 22
  have k23 : w.cell? ⟨g, 23, none⟩ = some (.int .i64 t.sfg) := hg.cell 23
  have k24 : w.cell? ⟨g, 24, none⟩ = some (.int .i64 t.sbg) := hg.cell 24
  have k25 : w.cell? ⟨g, 25, none⟩ = some (.bool t.sb) := hg.cell 25
  have k26 : w.cell? ⟨g, 26, none⟩ = some (.bool t.su) := hg.cell 26
  have k27 : w.cell? ⟨g, 27, none⟩ = some (.bool t.st) := hg.cell 27
  have hf := hg.free
  clear hg
  go_enter Tryz.func99, Tryz.ntmps99
  go_upto_region 0 with fail
  go_region_held3 (fun w' => w'.cell? ⟨g, 9, none⟩ = some (.int .i64 t.x) ∧ w'.cell? ⟨g, 10, none⟩ = some (.int .i64 t.y) ∧ w'.cell? ⟨g, 12, none⟩ = some (.int .i64 t.fg) ∧ w'.cell? ⟨g, 13, none⟩ = some (.int .i64 t.bg) ∧ w'.cell? ⟨g, 14, none⟩ = some (.bool t.b) ∧ w'.cell? ⟨g, 15, none⟩ = some (.bool t.u) ∧ w'.cell? ⟨g, 16, none⟩ = some (.bool t.t)) (first | (refine ⟨?_, ?_, ?_, ?_, ?_, ?_, ?_⟩ <;> (repeat' first | (with_reducible assumption) | (with_reducible refine cell_keepD ?_) | (with_reducible refine cell_keep ?_ ?_) | decide))) (fail)
  have H1 := hid (RowN.drew (savS_row HG.out))
  have ON := hid (only_drew_ (savS_only w g t))
  clear k9 k10 k12 k13 k14 k15 k16 k21 k22 k23 k24 k25 k26 k27 hf
  go_wp2_with fail
  go_end0
  exact ⟨rfl, H1.out, ON.out⟩
theorem restoreCursor_any (t : ScrS) (g : Nat) (w : World) (hg : RowN w g t) (w1 : 1 ≤ t.w) (w2 : t.w ≤ 120) (h1 : 1 ≤ t.h) (h2 : t.h ≤ 120) :
    Calls Tryz.prog 100 #[.pointer (some ⟨g, 0, none⟩)] w fun e w' => e = .returned (.tuple #[]) ∧ RowN w' g (bacS t) ∧ Only (fun i => i = g) w w' := by
  have HN := hid hg
  have k21 : w.cell? ⟨g, 21, none⟩ = some (.int .i64 t.sx) := hg.cell 21
  have k22 : w.cell? ⟨g, 22, none⟩ = some (.int .i64 t.sy) := hg.cell 22
  have HM := hid (fun V (h : RowN V g t) => moveTo_any t g t.sx t.sy V h w1 w2 h1 h2)
  clear hg w1 w2 h1 h2
  go_enter Tryz.func100, Tryz.ntmps100
  go_upto_region 0 with fail
  go_region_law (first
    | (go_simp; go_at_call 96; (with_reducible refine (HM.out _ HN.out.drew).mono ?_); rintro e v ⟨rfl, hR, hon⟩; have HR := hid hR; have HON := hid (only_undrew hon); clear hR hon))
  all_goals
    have k23 : v.cell? ⟨g, 23, none⟩ = some (.int .i64 t.sfg) := HR.out.cell 23
    have k24 : v.cell? ⟨g, 24, none⟩ = some (.int .i64 t.sbg) := HR.out.cell 24
    have k25 : v.cell? ⟨g, 25, none⟩ = some (.bool t.sb) := HR.out.cell 25
    have k26 : v.cell? ⟨g, 26, none⟩ = some (.bool t.su) := HR.out.cell 26
    have k27 : v.cell? ⟨g, 27, none⟩ = some (.bool t.st) := HR.out.cell 27
    have k12 : v.cell? ⟨g, 12, none⟩ = some (.int .i64 t.fg) := HR.out.cell 12
    have k13 : v.cell? ⟨g, 13, none⟩ = some (.int .i64 t.bg) := HR.out.cell 13
    have k14 : v.cell? ⟨g, 14, none⟩ = some (.bool t.b) := HR.out.cell 14
    have k15 : v.cell? ⟨g, 15, none⟩ = some (.bool t.u) := HR.out.cell 15
    have k16 : v.cell? ⟨g, 16, none⟩ = some (.bool t.t) := HR.out.cell 16
    have hf := HR.out.free
    go_wp2_with fail
    go_end0
    refine ⟨rfl, ?_, ?_⟩
    · exact RowN.s_t (z := t.st) (RowN.s_u (z := t.su) (RowN.s_b (z := t.sb) (RowN.s_bg (z := t.sbg) (RowN.s_fg (z := t.sfg) HR.out))))
    · exact ((((HON.out.trans (Only.cell_ _ g 12 _ rfl)).trans (Only.cell_ _ g 13 _ rfl)).trans (Only.cell_ _ g 14 _ rfl)).trans (Only.cell_ _ g 15 _ rfl)).trans (Only.cell_ _ g 16 _ rfl)
theorem keep_tabs {w y : World} {B : Nat} {t : ScrS} (h : OwnS w B t) (on : Only (fun k => (Value.slice t.tA t.tabs.length t.tk).ownBlock = some k) w y) : OwnCs y B (t.M :: t.A :: t.rows) ∧ OwnR y B t.bA t.rows.length t.bk t.rows :=
  ⟨h.c.only on (fun r hr k hk e => own_ne (h.c.1 r hr) h.t (by decide) k hk e), h.r.only on (fun k hk e => h.r.ne h.t (by decide) k e hk)⟩
theorem tabs_put {w y : World} {B n c : Nat} {t : ScrS} {A : Option Addr} {zs : List Int} {g : Nat} (hg : RowN w g t) (h : OwnS w B t) (on : Only (fun k => (Value.slice t.tA t.tabs.length t.tk).ownBlock = some k) w y) (hi : OwnI y B A n c zs) (hn : n = zs.length) :
    RowN y g t ∧ RowN (y.setCell ⟨g, 28, none⟩ (.slice A n c)) g { t with tA := A, tk := c, tabs := zs } ∧ OwnS (y.setCell ⟨g, 28, none⟩ (.slice A n c)) B { t with tA := A, tk := c, tabs := zs } := by
  have h1 : RowN y g t := hg.only on (fun e => hg.ne h.t (by decide) e)
  have h2 := keep_tabs h on
  have h3 : OwnS y B { t with tA := A, tk := c, tabs := zs } := ⟨h2.1, (by subst hn; exact hi), h2.2⟩
  refine ⟨h1, ?_, h1.own h3⟩
  rw [hn]; exact h1.s_tabs
theorem sizeN38 : (Tryz.prog.info? 123).map (·.size) = some (37 + 1) := by kernel_rfl
theorem loadN (w : World) (b : Nat) (h : (rowOf w b).size = 38) : (Instr.loadAt 123 (.pointer (some ⟨b, 0, none⟩))).run Tryz.prog w = .ok (.agg (rowOf w b)) w :=
  run_load_row Tryz.underlying123 rfl sizeN38 w b h
theorem storeN (w : World) (b : Nat) (C : Array Value) (hz : RowZ w b 38) (hs : C.size = 38) (h1 : One C) : (Instr.storeAt 123 (.pointer (some ⟨b, 0, none⟩)) (.agg C)).run Tryz.prog w = .ok () (w.setRow b C) := by
  obtain ⟨old, T, hb, ho⟩ := hz
  exact run_store_row sizeN38 w b C old ⟨T, hb⟩ ho hs h1
theorem exec_loadN {ρ : Operand → Value} {d : Option Tmp} {x : Operand} {ty : TypeId} {pos : String} {af : Array Edge} {g : Option (Nat × Bool)} (w : World) (hp : isHead (ρ x) = true) (h : (rowOf w (blkOf (ρ x))).size = 38) :
    (execOp ρ ⟨d, .load 123 x, ty, pos, af, g⟩).run Tryz.prog w = .ok (.value (.agg (rowOf w (blkOf (ρ x))))) w := by
  have e := of_head hp
  show (Instr.loadAt 123 (ρ x) >>= fun a => pure (Next.value a)).run _ w = _
  generalize ρ x = v at *
  generalize blkOf v = b at *
  subst e
  rw [Sem.run_bind, loadN w b h]; rfl
theorem exec_storeN {ρ : Operand → Value} {d : Option Tmp} {x y : Operand} {ty : TypeId} {pos : String} {af : Array Edge} {g : Option (Nat × Bool)} (w : World) (hp : isHead (ρ x) = true) (ha : aggN 38 (ρ y) = true) (hz : RowZ w (blkOf (ρ x)) 38) (h1 : One (ρ y).cells) :
    (execOp ρ ⟨d, .store 123 x y, ty, pos, af, g⟩).run Tryz.prog w = .ok .skip (w.setRow (blkOf (ρ x)) (ρ y).cells) := by
  have e := of_head hp
  show (Instr.storeAt 123 (ρ x) (ρ y) >>= fun _ => pure Next.skip).run _ w = _
  generalize ρ y = vy at *
  cases vy <;> simp [aggN] at ha
  rename_i C
  generalize ρ x = v at *
  generalize blkOf v = b at *
  subst e
  rw [Sem.run_bind, storeN w b C hz ha h1]; rfl
theorem one_ns (s : ScrS) : One (nsA s) := nsA_one s
attribute [local go_sem ↓] Go.wp_at_zero Go.wp_at_succ exec_loadN exec_storeN
attribute [local go_sem] one_ns
end Go.Proofs.YtgnpgkkjcloghaaGreat.Sc
