/- Texts that lay in modules of their own: KiT, GrNew, ScNewC, ScEscD, AttrOne. -/
import Derived.Test.YtgnpgkkjcloghaaGreatKiVW
set_option maxRecDepth 100000
set_option maxHeartbeats 6400000
set_option linter.unusedVariables false
namespace Go.Proofs.YtgnpgkkjcloghaaGreat.Sc
open Lib
open Go.RowKit Bytes Rows_ RowK Gr DOk Opq Attr
theorem okC_blank : okC blankC = true := by decide
theorem all_over {cs new : List CellD} {lo : Nat} (h : cs.all okC = true) (hn : new.all okC = true) : (over cs lo new).all okC = true := by
  rw [List.all_eq_true] at *
  intro x hx
  unfold over at hx
  rcases List.mem_append.1 hx with hx | hx
  · rcases List.mem_append.1 hx with hx | hx
    · exact h x (List.mem_of_mem_take hx)
    · exact hn x hx
  · exact h x (List.mem_of_mem_drop hx)
theorem all_getD {cs : List CellD} (h : cs.all okC = true) (i : Nat) : okC (cs.getD i blankC) = true := by
  rw [List.all_eq_true] at h
  by_cases hi : i < cs.length
  · have e : cs.getD i blankC = cs[i] := by simp [List.getD, hi]
    rw [e]; exact h _ (List.getElem_mem hi)
  · have e : cs.getD i blankC = blankC := by simp [List.getD, List.getElem?_eq_none (show cs.length ≤ i by omega)]
    rw [e]; exact okC_blank
theorem all_shift {cs : List CellD} (h : cs.all okC = true) (lo m : Nat) (d : Int) : (shiftL cs lo m d).all okC = true := by
  rw [List.all_eq_true]
  intro x hx
  unfold shiftL at hx
  obtain ⟨i, _, rfl⟩ := List.mem_map.1 hx
  split
  · exact all_getD h _
  · exact okC_blank
theorem okG_cells {gw gh : Int} {cs cs' : List CellD} (h : okG gw gh cs = true) (hl : cs'.length = cs.length) (ha : cs'.all okC = true) : okG gw gh cs' = true := by
  unfold okG at *
  rw [Bool.and_eq_true, Bool.and_eq_true] at h
  rw [h.1, ha, hl, h.2.1]; rfl
theorem okG_all {gw gh : Int} {cs : List CellD} (h : okG gw gh cs = true) : cs.all okC = true := by
  unfold okG at h
  rw [Bool.and_eq_true, Bool.and_eq_true] at h; exact h.2.2
theorem ok_shall {d : ScrD} (h : okD d = true) : (shD d).all okC = true := by
  have h1 := ok_g h
  unfold shD; cases d.onAlt
  · exact okG_all h1.1
  · exact okG_all h1.2
theorem ok_put {d : ScrD} {cs : List CellD} (h : okD d = true) (hl : cs.length = (shD d).length) (ha : cs.all okC = true) : okD (putD d cs) = true := by
  obtain ⟨⟨g1, g2, e⟩, h2⟩ := okD_iff.1 h
  unfold shD at hl
  unfold putD
  cases ho : d.onAlt <;> rw [ho] at hl
  · exact okD_t ⟨⟨okG_cells g1 hl ha, g2, e⟩, h2⟩
  · exact okD_t ⟨⟨g1, okG_cells g2 hl ha, e⟩, h2⟩
theorem ok_at {d : ScrD} (h : okD d = true) (x y : Int) (wr : Bool) (hx : 0 ≤ x ∧ x < d.w) (hy : 0 ≤ y ∧ y < d.h) (hw : wr = true → x = d.w - 1) : okD { d with x := x, y := y, wrap := wr } = true := by
  obtain ⟨h1, ⟨a, b, c, e, f, g⟩, h2⟩ := okD_iff.1 h
  exact okD_t ⟨h1, ⟨hx.1, hx.2, hy.1, hy.2, hw, g⟩, h2⟩
theorem rollC_all {d : ScrD} (h : okD d = true) (top bot n : Int) : (rollC d top bot n).all okC = true := all_over (ok_shall h) (all_shift (ok_shall h) _ _ _)
theorem ok_rows_step {d : ScrD} {rows : List (List CellD)} (h : okD d = true) (hl : rows.length ≤ d.lim.toNat) (ha : rows.all okRow = true) : okD { d with rows := rows } = true := by
  obtain ⟨h1, h2, ⟨a, b, c, e, f, g, i⟩, h4, h5⟩ := okD_iff.1 h
  exact okD_t ⟨h1, h2, ⟨a, b, c, e, f, g, by show (rows.length : Int) ≤ d.lim; omega⟩, h4, ha⟩
theorem rowsM_ok {d : ScrD} {W H X Y T Bt L : Nat} (h : okD d = true) (f : Fit d W H X Y T Bt L) {k : Nat} (hk : k ≤ H) : (rowsM d.M W k).all okRow = true := by
  rw [List.all_eq_true]
  intro r hr
  unfold rowsM at hr
  obtain ⟨y, hy, rfl⟩ := List.mem_map.1 hr
  have hyk : y < k := List.mem_range.1 hy
  have h1 : (y + 1) * W ≤ H * W := Nat.mul_le_mul_right _ (by omega)
  rw [Nat.add_mul, Nat.one_mul, Nat.mul_comm H W] at h1
  have hl : ((d.M.drop (y * W)).take W).length = W := by
    have := f.ml; simp; omega
  unfold okRow
  rw [decide_eq_true (by rw [hl]; exact ⟨f.w1, f.w2⟩), Bool.true_and]
  have ha := okG_all (ok_g h).1
  rw [List.all_eq_true] at ha ⊢
  exact fun x hx => ha x (List.mem_of_mem_drop (List.mem_of_mem_take hx))
theorem ok_keepN {d : ScrD} {W H X Y T Bt L : Nat} (h : okD d = true) (f : Fit d W H X Y T Bt L) {k : Nat} (hk : k ≤ H) : okD { d with rows := keepN L d.rows (rowsM d.M W k) } = true := by
  refine ok_rows_step h ?_ ?_
  · unfold keepN; rw [List.length_drop, List.length_append, f.lim, Int.toNat_natCast]; omega
  · have h1 := (okD_iff.1 h).2.2.2.2
    have h2 := rowsM_ok h f hk
    unfold keepN
    rw [List.all_eq_true] at *
    intro r hr
    rcases List.mem_append.1 (List.mem_of_mem_drop hr) with hr | hr
    · exact h1 r hr
    · exact h2 r hr
end Go.Proofs.YtgnpgkkjcloghaaGreat.Sc
namespace Go.Proofs.YtgnpgkkjcloghaaGreat.Sc
open Lib
open Gr
end Go.Proofs.YtgnpgkkjcloghaaGreat.Sc
namespace Go.Proofs.YtgnpgkkjcloghaaGreat.Sc
open Lib
open Gr DOk Attr
theorem clamp_le {x h : Int} (h0 : 0 ≤ h) : 0 ≤ clampD x h ∧ clampD x h ≤ h := by unfold clampD clampV; split <;> (try split) <;> omega
theorem ok_go {d : ScrD} (h : okD d = true) (x y : Int) : okD (goD d x y) = true := by
  obtain ⟨W, H, X, Y, T, Bt, L, f⟩ := ok_fit h
  have h1 := f.w; have h2 := f.h; have h3 := f.w1; have h4 := f.h1
  have a := clamp_le (x := x) (h := d.w - 1) (by omega)
  have b := clamp_le (x := y) (h := d.h - 1) (by omega)
  exact ok_at h _ _ false ⟨a.1, by omega⟩ ⟨b.1, by omega⟩ (fun h => by cases h)
end Go.Proofs.YtgnpgkkjcloghaaGreat.Sc
namespace Go.Proofs.YtgnpgkkjcloghaaGreat.Gr
open Lib
open Go.RowKit Bytes Rows_ RowK
attribute [local go_sem ↓] Go.wp_at_zero Go.wp_at_succ
theorem spec_GridNew_no (gw gh : Int) (w : World) (hs : sizeB gw gh = false) : Calls Tryz.prog 54 #[.int .i64 gw, .int .i64 gh] w (AnsN w.heap.size w gw gh) := by
  have HA := hid (show ∀ e w', AnsN w.heap.size w gw gh e w' = (e = .returned (.tuple #[.agg #[.int .i64 0, .int .i64 0, .slice none 0 0], .bool false]) ∧ Below w.heap.size w w') from fun e w' => by unfold AnsN; rw [hs]; rfl)
  have HS := hid hs
  clear hs
  by_cases h1 : 1 ≤ gw
  · by_cases h2 : gw ≤ 120
    · by_cases h3 : 1 ≤ gh
      · by_cases h4 : gh ≤ 120
        · obtain ⟨m1, m2⟩ := mul_bd h1 h2 h3 h4
          have h5 : 4000 < gw * gh := by
            rcases Int.lt_or_le 4000 (gw * gh) with h | h
            · exact h
            · have := sizeB_t ⟨h1, h2, h3, h4, h⟩; rw [HS.out] at this; cases this
          go_enter Tryz.func54, Tryz.ntmps54
          go_wp2_with fail
          refine bodyPost_ret (v := .tuple #[.agg #[.int .i64 0, .int .i64 0, .slice none 0 0], .bool false]) (by simp [results, Tryz.results54, go_sem]) rfl ?_
          rw [HA.out]
          exact ⟨rfl, by repeat (first | refine Below.setCell ?_ (by simp <;> omega) _ | refine Below.alloc ?_ (by simp <;> omega) _); exact Below.refl _ _⟩
        · go_enter Tryz.func54, Tryz.ntmps54
          go_wp2_with fail
          refine bodyPost_ret (v := .tuple #[.agg #[.int .i64 0, .int .i64 0, .slice none 0 0], .bool false]) (by simp [results, Tryz.results54, go_sem]) rfl ?_
          rw [HA.out]
          exact ⟨rfl, by repeat (first | refine Below.setCell ?_ (by simp <;> omega) _ | refine Below.alloc ?_ (by simp <;> omega) _); exact Below.refl _ _⟩
      · go_enter Tryz.func54, Tryz.ntmps54
        go_wp2_with fail
        refine bodyPost_ret (v := .tuple #[.agg #[.int .i64 0, .int .i64 0, .slice none 0 0], .bool false]) (by simp [results, Tryz.results54, go_sem]) rfl ?_
        rw [HA.out]
        exact ⟨rfl, by repeat (first | refine Below.setCell ?_ (by simp <;> omega) _ | refine Below.alloc ?_ (by simp <;> omega) _); exact Below.refl _ _⟩
    · go_enter Tryz.func54, Tryz.ntmps54
      go_wp2_with fail
      refine bodyPost_ret (v := .tuple #[.agg #[.int .i64 0, .int .i64 0, .slice none 0 0], .bool false]) (by simp [results, Tryz.results54, go_sem]) rfl ?_
      rw [HA.out]
      exact ⟨rfl, by repeat (first | refine Below.setCell ?_ (by simp <;> omega) _ | refine Below.alloc ?_ (by simp <;> omega) _); exact Below.refl _ _⟩
  · go_enter Tryz.func54, Tryz.ntmps54
    go_wp2_with fail
    refine bodyPost_ret (v := .tuple #[.agg #[.int .i64 0, .int .i64 0, .slice none 0 0], .bool false]) (by simp [results, Tryz.results54, go_sem]) rfl ?_
    rw [HA.out]
    exact ⟨rfl, by repeat (first | refine Below.setCell ?_ (by simp <;> omega) _ | refine Below.alloc ?_ (by simp <;> omega) _); exact Below.refl _ _⟩
theorem spec_GridNew_any (gw gh : Int) (w : World) : Calls Tryz.prog 54 #[.int .i64 gw, .int .i64 gh] w (AnsN w.heap.size w gw gh) := by
  cases hs : sizeB gw gh
  · exact spec_GridNew_no gw gh w hs
  · obtain ⟨W, H, rfl, rfl, w1, w2, w3, w4, w5, hN⟩ := sidesS hs
    obtain ⟨N, hN2⟩ : ∃ N, N = W * H := ⟨_, rfl⟩
    have HA := hid (show ∀ e w', AnsN w.heap.size w (W : Int) (H : Int) e w' = (∃ A c, e = .returned (.tuple #[.agg #[.int .i64 (W : Int), .int .i64 (H : Int), .slice A N c], .bool true]) ∧ OwnC w' w.heap.size A N c (List.replicate N blankC) ∧ Below w.heap.size w w') from fun e w' => by unfold AnsN; rw [hs, hN, hN2]; rfl)
    have hNn : N ≤ 4000 := by omega
    have e1 : IntKind.i64.wrap ((W : Int) * (H : Int)) = (N : Int) := by rw [← Int.natCast_mul, ← hN2]; exact IntWalk.i64_in _ (by omega)
    have m1 : ¬ ((N : Int) > 4000) := by omega
    have m2 : decide ((N : Int) > 4000) = false := by simp; omega
    have X6 := hid (BoxG.new (w.alloc (.cells #[.int .i64 0, .int .i64 0, .slice none 0 0] 34)) #[.int .i64 (W : Int), .int .i64 (H : Int), .slice none 0 0])
    have X4 := hid ((BoxG.new w #[.int .i64 0, .int .i64 0, .slice none 0 0]).below ((Below.refl _ _).alloc (Nat.le_refl _) (.cells #[.int .i64 (W : Int), .int .i64 (H : Int), .slice none 0 0] 34)) (by simp))
    have hb0 := hid (((Below.refl w.heap.size w).alloc (Nat.le_refl _) (.cells #[.int .i64 0, .int .i64 0, .slice none 0 0] 34)).alloc (by simp) (.cells #[.int .i64 (W : Int), .int .i64 (H : Int), .slice none 0 0] 34))
    clear hs hN hN2 w5
    go_enter Tryz.func54, Tryz.ntmps54
    go_wp2_with fail
    go_loopw [7] (fun i wr => ∃ (k : Nat) (A : Option Addr) (c : Nat), k ≤ N ∧ i = .int .i64 k ∧ BoxG wr (w.heap.size + 1) #[.int .i64 (W : Int), .int .i64 (H : Int), .slice A k c] ∧ BoxG wr w.heap.size #[.int .i64 0, .int .i64 0, .slice none 0 0] ∧ OwnC wr (w.heap.size + 2) A k c (List.replicate k blankC) ∧ Below w.heap.size w wr) (fun i _ => N - (intOf i).toNat)
    case atStart => exact ⟨0, none, 0, Nat.zero_le _, rfl, by simpa using X6.out, X4.out, ownC_nil _ _, hb0.out⟩
    case round =>
      clear X6 X4 hb0
      obtain ⟨k, A, c, hk, rfl, hx6, hx4, ho, hb⟩ := hrel
      have l6 := hx6.lt
      have l4 := hx4.lt
      by_cases hlt : k < N
      · have HX6 := hid hx6
        have HX4 := hid hx4
        have HO := hid ho
        have HB := hid hb
        have q2 : wr.cell? ⟨w.heap.size + 1, 2, none⟩ = some (.slice A k c) := hx6.cell 2
        have L1 := hid (show w.heap.size + 1 < w.heap.size + 2 by omega)
        have L2 := hid (show w.heap.size < w.heap.size + 2 by omega)
        have L3 := hid (show w.heap.size ≤ w.heap.size + 2 by omega)
        clear hx6 hx4 ho hb
        go_wp2_with fail
        go_region_law (first
          | (go_simp; go_at_call 45; (with_reducible refine (blank_any _).mono ?_); rintro e y1 ⟨rfl, hy'⟩; have hy : Below wr.heap.size wr y1 := undrew hy'; have HOy := hid (HO.out.below (Nat.le_refl _) hy); have hx := HX6.out.below hy l6; have q2' : y1.cell? ⟨w.heap.size + 1, 2, none⟩ = some (.slice A k c) := hx.cell 2; have HX6y := hid hx; have HX4y := hid (HX4.out.below hy l4); have HBy := hid (HB.out.trans (hy.mono (by omega))); have hyl : w.heap.size + 1 < y1.heap.size := Nat.lt_of_lt_of_le l6 hy.size; have HZy := hid (show w.heap.size + 2 ≤ y1.heap.size from hyl); clear hx hy hy')
          | (refine step_cell (z := blankC) rfl _ _ rfl rfl _ rfl rfl HOy.out (by omega) HZy.out ?_; intro A' c' w1 ho1 hb1 hg1; have hxx := new_next HX6y.out HX4y.out HOy.out L1.out L2.out hg1; have r2 : w1.cell? ⟨w.heap.size + 1, 2, none⟩ = some (.slice A k c) := hxx.1.cell 2; have f2 := hxx.1.free 2; have HXX := hid hxx; have HOz := hid ho1; have HBz := hid (HBy.out.trans (hb1.mono L3.out)); clear hxx ho1 hb1 hg1))
        all_goals
          go_wp2_with fail
          refine ⟨⟨k + 1, A', c', by omega, by go_num, ?_, ?_, ?_, ?_⟩, by simp [intOf]; omega⟩
          · exact HXX.out.1.set2 _
          · exact HXX.out.2.other (by omega)
          · rw [List.replicate_succ']; exact HOz.out.setBox _ _ _ (by omega)
          · exact HBz.out.setCell (by simp) _
      · obtain rfl : N = k := by omega
        have HO := hid ho
        have HB := hid hb
        have p0 := hx6.cell 0
        have p1 := hx6.cell 1
        have p2 := hx6.cell 2
        have q0 := hx4.cell 0
        have q1 := hx4.cell 1
        have q2 := hx4.cell 2
        have f0 := hx4.free 0
        have f1 := hx4.free 1
        have f2 := hx4.free 2
        clear hx6 hx4 ho hb
        go_wp2_with fail
        refine bodyPost_ret (v := .tuple #[.agg #[.int .i64 (W : Int), .int .i64 (H : Int), .slice A N c], .bool true]) (by simp [results, Tryz.results54, go_sem, q0, q1, q2]) rfl ?_
        rw [HA.out]
        refine ⟨_, _, rfl, ?_, ?_⟩
        · exact ((((HO.out.setBox w.heap.size 0 _ (by omega)).setBox w.heap.size 1 _ (by omega)).setBox w.heap.size 2 _ (by omega))).more (by omega)
        · exact ((HB.out.setCell (by simp) _).setCell (by simp) _).setCell (by simp) _
end Go.Proofs.YtgnpgkkjcloghaaGreat.Gr
namespace Go.Proofs.YtgnpgkkjcloghaaGreat.Sc
open Lib
open Go.RowKit Bytes Rows_ RowK Gr DOk Opq
attribute [local go_sem ↓] Go.wp_at_zero Go.wp_at_succ Sc.exec_storeS
attribute [local go_sem] blkOf_ptr isHead_ptr aggN_agg setRow_alloc rowZ_at rowZ_past rowZ_setRow cell_setRow'
def newB (gw gh lim : Int) : Bool := sizeB gw gh && okL lim
end Go.Proofs.YtgnpgkkjcloghaaGreat.Sc
namespace Go.Proofs.YtgnpgkkjcloghaaGreat.Sc
open Lib
open Go.RowKit Bytes Rows_ RowK Gr DOk Opq Attr
def saveD (d : ScrD) : ScrD := { d with sx := d.x, sy := d.y, sfg := d.fg, sbg := d.bg, sb := d.b, su := d.u, st := d.t }
def backD (d : ScrD) : ScrD := { d with x := d.sx, y := d.sy, wrap := false, fg := d.sfg, bg := d.sbg, b := d.sb, u := d.su, t := d.st }
def tabsD (d : ScrD) (l : List Int) : ScrD := { d with tabs := l }
theorem ok_save {d : ScrD} (h : okD d = true) : okD (saveD d) = true := by
  obtain ⟨h1, ⟨a1, a2, a3, a4, a5, a6, a7, a8, a9, a10, a11⟩, h2⟩ := okD_iff.1 h
  exact okD_t ⟨h1, ⟨a1, a2, a3, a4, a5, a1, a2, a3, a4, a10, a10⟩, h2⟩
theorem ok_back {d : ScrD} (h : okD d = true) : okD (backD d) = true := by
  obtain ⟨h1, ⟨a1, a2, a3, a4, a5, a6, a7, a8, a9, a10, a11⟩, h2⟩ := okD_iff.1 h
  exact okD_t ⟨h1, ⟨a6, a7, a8, a9, (fun h => by cases h), a6, a7, a8, a9, a11, a11⟩, h2⟩
theorem ok_tabsL {d : ScrD} (h : okD d = true) {l : List Int} (hl : okT (-1) d.w l = true) : okD (tabsD d l) = true := by
  obtain ⟨h1, h2, h3, h4, h5⟩ := okD_iff.1 h
  exact okD_t ⟨h1, h2, h3, hl, h5⟩
theorem ok_size0 {d : ScrD} (h : okD d = true) : newB d.w d.h d.lim = true := by
  obtain ⟨W, H, X, Y, T, Bt, L, f⟩ := ok_fit h
  have hw := f.w; have hh := f.h; have hl := f.lim; have l2 := f.l2; have wh := f.wh
  have w1 := f.w1; have w2 := f.w2; have h1 := f.h1; have h2 := f.h2
  unfold newB sizeB okL
  rw [hw, hh, hl, ← Int.natCast_mul]
  have e1 : decide (1 ≤ (W : Int) ∧ (W : Int) ≤ 120 ∧ 1 ≤ (H : Int) ∧ (H : Int) ≤ 120 ∧ ((W * H : Nat) : Int) ≤ 4000) = true := decide_eq_true (by omega)
  have e2 : decide (0 ≤ (L : Int) ∧ (L : Int) ≤ 100) = true := decide_eq_true (by omega)
  rw [e1, e2]; rfl
end Go.Proofs.YtgnpgkkjcloghaaGreat.Sc
namespace Go.Proofs.YtgnpgkkjcloghaaGreat.Attr
open Lib
open Go.RowKit
structure AD where
  fg : Int
  bg : Int
  b : Bool
  u : Bool
  t : Bool
def AD.v (a : AD) : Value := .agg #[.int .i64 a.fg, .int .i64 a.bg, .bool a.b, .bool a.u, .bool a.t]
def AD.zero : AD := ⟨0, 0, false, false, false⟩
def one (a : AD) (n : Int) : AD :=
  if n = 0 then AD.zero
  else if n = 1 then ⟨a.fg, a.bg, true, a.u, a.t⟩ else if n = 22 then ⟨a.fg, a.bg, false, a.u, a.t⟩
  else if n = 4 then ⟨a.fg, a.bg, a.b, true, a.t⟩ else if n = 24 then ⟨a.fg, a.bg, a.b, false, a.t⟩
  else if n = 7 then ⟨a.fg, a.bg, a.b, a.u, true⟩ else if n = 27 then ⟨a.fg, a.bg, a.b, a.u, false⟩
  else if n = 39 then ⟨0, a.bg, a.b, a.u, a.t⟩ else if n = 49 then ⟨a.fg, 0, a.b, a.u, a.t⟩
  else if 30 ≤ n ∧ n ≤ 37 then ⟨n - 29, a.bg, a.b, a.u, a.t⟩
  else if 40 ≤ n ∧ n ≤ 47 then ⟨a.fg, n - 39, a.b, a.u, a.t⟩
  else a
theorem cases_n (n : Int) : n = 0 ∨ n = 1 ∨ n = 22 ∨ n = 4 ∨ n = 24 ∨ n = 7 ∨ n = 27 ∨ n = 39 ∨ n = 49 ∨ (n ≠ 0 ∧ n ≠ 1 ∧ n ≠ 22 ∧ n ≠ 4 ∧ n ≠ 24 ∧ n ≠ 7 ∧ n ≠ 27 ∧ n ≠ 39 ∧ n ≠ 49) := by omega
theorem one_fg (a : AD) (n : Int) (h0 : 30 ≤ n) (h1 : n ≤ 37) : one a n = ⟨n - 29, a.bg, a.b, a.u, a.t⟩ := by
  unfold one
  rw [if_neg (by omega), if_neg (by omega), if_neg (by omega), if_neg (by omega), if_neg (by omega), if_neg (by omega), if_neg (by omega), if_neg (by omega), if_neg (by omega), if_pos ⟨h0, h1⟩]
theorem one_bg (a : AD) (n : Int) (h0 : 40 ≤ n) (h1 : n ≤ 47) : one a n = ⟨a.fg, n - 39, a.b, a.u, a.t⟩ := by
  unfold one
  rw [if_neg (by omega), if_neg (by omega), if_neg (by omega), if_neg (by omega), if_neg (by omega), if_neg (by omega), if_neg (by omega), if_neg (by omega), if_neg (by omega), if_neg (by omega), if_pos ⟨h0, h1⟩]
theorem one_no (a : AD) (n : Int) (h : n ≠ 0 ∧ n ≠ 1 ∧ n ≠ 22 ∧ n ≠ 4 ∧ n ≠ 24 ∧ n ≠ 7 ∧ n ≠ 27 ∧ n ≠ 39 ∧ n ≠ 49) (h0 : ¬ (30 ≤ n ∧ n ≤ 37)) (h1 : ¬ (40 ≤ n ∧ n ≤ 47)) : one a n = a := by
  unfold one
  rw [if_neg (by omega), if_neg (by omega), if_neg (by omega), if_neg (by omega), if_neg (by omega), if_neg (by omega), if_neg (by omega), if_neg (by omega), if_neg (by omega), if_neg h0, if_neg h1]
theorem nb {n k : Int} (h : n ≠ k) : (n == k) = false := by simp [h]
theorem withColor_any (fg bg : Int) (b u t : Bool) (n : Int) (w : World) (h : n ≠ 0 ∧ n ≠ 1 ∧ n ≠ 22 ∧ n ≠ 4 ∧ n ≠ 24 ∧ n ≠ 7 ∧ n ≠ 27 ∧ n ≠ 39 ∧ n ≠ 49) :
    Calls Tryz.prog 167 #[.agg #[.int .i64 fg, .int .i64 bg, .bool b, .bool u, .bool t], .int .i64 n] w fun e w' => e = .returned (one ⟨fg, bg, b, u, t⟩ n).v ∧ Below w.heap.size w w' := by
  by_cases h1 : 30 ≤ n ∧ n ≤ 37
  · have HO := hid (one_fg ⟨fg, bg, b, u, t⟩ n h1.1 h1.2)
    obtain ⟨h1, h2⟩ := h1
    have h1' : (29 : Int) < n := by omega
    clear h
    go_enter Tryz.func167, Tryz.ntmps167
    go_wp2_with fail
    refine bodyPost_ret (v := .agg #[.int .i64 (n - 29), .int .i64 bg, .bool b, .bool u, .bool t]) (by simp [results, Tryz.results167, go_sem]) rfl ⟨by rw [HO.out]; rfl, ?_⟩
    repeat (first | refine Below.setCell ?_ (by simp <;> omega) _ | refine Below.alloc ?_ (by simp <;> omega) _)
    exact Below.refl _ _
  · by_cases h2 : 40 ≤ n ∧ n ≤ 47
    · have HO := hid (one_bg ⟨fg, bg, b, u, t⟩ n h2.1 h2.2)
      obtain ⟨h2, h3⟩ := h2
      have h4 : (29 : Int) < n := by omega
      have h5 : ¬ n ≤ 37 := by omega
      have h6 : (39 : Int) < n := by omega
      clear h h1
      go_enter Tryz.func167, Tryz.ntmps167
      go_wp2_with fail
      refine bodyPost_ret (v := .agg #[.int .i64 fg, .int .i64 (n - 39), .bool b, .bool u, .bool t]) (by simp [results, Tryz.results167, go_sem]) rfl ⟨by rw [HO.out]; rfl, ?_⟩
      repeat (first | refine Below.setCell ?_ (by simp <;> omega) _ | refine Below.alloc ?_ (by simp <;> omega) _)
      exact Below.refl _ _
    · have HO := hid (one_no ⟨fg, bg, b, u, t⟩ n h h1 h2)
      have h3 : n ≤ 29 ∨ (n = 38) ∨ 48 ≤ n := by omega
      clear h h1 h2
      rcases h3 with h3 | rfl | h3
      · have h4 : ¬ (29 : Int) < n := by omega
        have h5 : ¬ (39 : Int) < n := by omega
        go_enter Tryz.func167, Tryz.ntmps167
        go_wp2_with fail
        refine bodyPost_ret (v := .agg #[.int .i64 fg, .int .i64 bg, .bool b, .bool u, .bool t]) (by simp [results, Tryz.results167, go_sem]) rfl ⟨by rw [HO.out]; rfl, ?_⟩
        repeat (first | refine Below.setCell ?_ (by simp <;> omega) _ | refine Below.alloc ?_ (by simp <;> omega) _)
        exact Below.refl _ _
      · go_enter Tryz.func167, Tryz.ntmps167
        go_wp2_with fail
        refine bodyPost_ret (v := .agg #[.int .i64 fg, .int .i64 bg, .bool b, .bool u, .bool t]) (by simp [results, Tryz.results167, go_sem]) rfl ⟨by rw [HO.out]; rfl, ?_⟩
        repeat (first | refine Below.setCell ?_ (by simp <;> omega) _ | refine Below.alloc ?_ (by simp <;> omega) _)
        exact Below.refl _ _
      · have h4 : (29 : Int) < n := by omega
        have h5 : ¬ n ≤ 37 := by omega
        have h6 : (39 : Int) < n := by omega
        have h7 : ¬ n ≤ 47 := by omega
        go_enter Tryz.func167, Tryz.ntmps167
        go_wp2_with fail
        refine bodyPost_ret (v := .agg #[.int .i64 fg, .int .i64 bg, .bool b, .bool u, .bool t]) (by simp [results, Tryz.results167, go_sem]) rfl ⟨by rw [HO.out]; rfl, ?_⟩
        repeat (first | refine Below.setCell ?_ (by simp <;> omega) _ | refine Below.alloc ?_ (by simp <;> omega) _)
        exact Below.refl _ _
theorem withParameter_any (fg bg : Int) (b u t : Bool) (n : Int) (w : World) :
    Calls Tryz.prog 158 #[.agg #[.int .i64 fg, .int .i64 bg, .bool b, .bool u, .bool t], .int .i64 n] w fun e w' => e = .returned (one ⟨fg, bg, b, u, t⟩ n).v ∧ Below w.heap.size w w' := by
  rcases cases_n n with rfl | rfl | rfl | rfl | rfl | rfl | rfl | rfl | rfl | h
  iterate 9
    · go_enter Tryz.func158, Tryz.ntmps158
      go_wp2_with fail
      refine bodyPost_ret (by simp [results, Tryz.results158, go_sem]; rfl) rfl ⟨rfl, ?_⟩
      repeat (first | refine Below.setCell ?_ (by simp <;> omega) _ | refine Below.alloc ?_ (by simp <;> omega) _)
      exact Below.refl _ _
  · have H := hid h
    obtain ⟨h0, h1, h2, h3, h4, h5, h6, h7, h8⟩ := h
    replace h0 := nb h0; replace h1 := nb h1; replace h2 := nb h2; replace h3 := nb h3; replace h4 := nb h4; replace h5 := nb h5; replace h6 := nb h6; replace h7 := nb h7; replace h8 := nb h8
    have HC := fun W => withColor_any fg bg b u t n W H.out
    generalize one ⟨fg, bg, b, u, t⟩ n = A at *
    obtain ⟨f', g', b', u', t'⟩ := A
    have HC := hid HC
    go_enter Tryz.func158, Tryz.ntmps158
    go_wp2_with fail
    refine (HC.out _).mono ?_
    simp only [AD.v]
    rintro e v1 ⟨rfl, hb⟩
    obtain ⟨hc, hf⟩ := bcell hb
    have hz : w.heap.size + 1 < v1.heap.size := by have := hb.size; simp at this; omega
    have HB := hid hb
    clear hb
    go_wp2_with fail
    refine bodyPost_ret (v := .agg #[.int .i64 f', .int .i64 g', .bool b', .bool u', .bool t']) (by simp [results, Tryz.results158, go_sem, hc]) rfl ⟨rfl, ?_⟩
    repeat (first | refine Below.setCell ?_ (by simp <;> omega) _)
    exact (((Below.refl _ _).alloc (Nat.le_refl _) _).alloc (by simp) _).trans (HB.out.mono (by simp; omega))
theorem l06One_any (fg bg : Int) (b u t : Bool) (n : Int) (w : World) :
    Calls Tryz.prog 71 #[.agg #[.int .i64 fg, .int .i64 bg, .bool b, .bool u, .bool t], .int .i64 n] w fun e w' => e = .returned (one ⟨fg, bg, b, u, t⟩ n).v ∧ Below w.heap.size w w' := by
  rcases cases_n n with rfl | rfl | rfl | rfl | rfl | rfl | rfl | rfl | rfl | h
  iterate 9
    · go_enter Tryz.func71, Tryz.ntmps71
      go_wp2_with fail
      refine bodyPost_ret (by simp [results, Tryz.results71, go_sem]; rfl) rfl ⟨rfl, ?_⟩
      repeat (first | refine Below.setCell ?_ (by simp <;> omega) _ | refine Below.alloc ?_ (by simp <;> omega) _)
      exact Below.refl _ _
  · by_cases c1 : 30 ≤ n ∧ n ≤ 37
    · have HO := hid (one_fg ⟨fg, bg, b, u, t⟩ n c1.1 c1.2)
      obtain ⟨h0, h1, h2, h3, h4, h5, h6, h7, h8⟩ := h
      replace h0 := nb h0; replace h1 := nb h1; replace h2 := nb h2; replace h3 := nb h3; replace h4 := nb h4; replace h5 := nb h5; replace h6 := nb h6; replace h7 := nb h7; replace h8 := nb h8
      obtain ⟨c1, c2⟩ := c1
      go_enter Tryz.func71, Tryz.ntmps71
      go_wp2_with fail
      refine bodyPost_ret (v := .agg #[.int .i64 (n - 29), .int .i64 bg, .bool b, .bool u, .bool t]) (by simp [results, Tryz.results71, go_sem]) rfl ⟨by rw [HO.out]; rfl, ?_⟩
      repeat (first | refine Below.setCell ?_ (by simp <;> omega) _ | refine Below.alloc ?_ (by simp <;> omega) _)
      exact Below.refl _ _
    · by_cases c2 : 40 ≤ n ∧ n ≤ 47
      · have HO := hid (one_bg ⟨fg, bg, b, u, t⟩ n c2.1 c2.2)
        obtain ⟨h0, h1, h2, h3, h4, h5, h6, h7, h8⟩ := h
        replace h0 := nb h0; replace h1 := nb h1; replace h2 := nb h2; replace h3 := nb h3; replace h4 := nb h4; replace h5 := nb h5; replace h6 := nb h6; replace h7 := nb h7; replace h8 := nb h8
        obtain ⟨c2, c3⟩ := c2
        have c4 : (30 : Int) ≤ n := by omega
        have c5 : ¬ n ≤ 37 := by omega
        clear c1
        go_enter Tryz.func71, Tryz.ntmps71
        go_wp2_with fail
        refine bodyPost_ret (v := .agg #[.int .i64 fg, .int .i64 (n - 39), .bool b, .bool u, .bool t]) (by simp [results, Tryz.results71, go_sem]) rfl ⟨by rw [HO.out]; rfl, ?_⟩
        repeat (first | refine Below.setCell ?_ (by simp <;> omega) _ | refine Below.alloc ?_ (by simp <;> omega) _)
        exact Below.refl _ _
      · have HO := hid (one_no ⟨fg, bg, b, u, t⟩ n h c1 c2)
        have h9 : n < 30 ∨ n = 38 ∨ 48 ≤ n := by omega
        obtain ⟨h0, h1, h2, h3, h4, h5, h6, h7, h8⟩ := h
        clear c1 c2
        rcases h9 with h9 | rfl | h9
        · replace h0 := nb h0; replace h1 := nb h1; replace h2 := nb h2; replace h3 := nb h3; replace h4 := nb h4; replace h5 := nb h5; replace h6 := nb h6; replace h7 := nb h7; replace h8 := nb h8
          have c1 : ¬ (30 : Int) ≤ n := by omega
          have c2 : ¬ (40 : Int) ≤ n := by omega
          go_enter Tryz.func71, Tryz.ntmps71
          go_wp2_with fail
          refine bodyPost_ret (v := .agg #[.int .i64 fg, .int .i64 bg, .bool b, .bool u, .bool t]) (by simp [results, Tryz.results71, go_sem]) rfl ⟨by rw [HO.out]; rfl, ?_⟩
          repeat (first | refine Below.setCell ?_ (by simp <;> omega) _ | refine Below.alloc ?_ (by simp <;> omega) _)
          exact Below.refl _ _
        · clear h0 h1 h2 h3 h4 h5 h6 h7 h8
          go_enter Tryz.func71, Tryz.ntmps71
          go_wp2_with fail
          refine bodyPost_ret (v := .agg #[.int .i64 fg, .int .i64 bg, .bool b, .bool u, .bool t]) (by simp [results, Tryz.results71, go_sem]) rfl ⟨by rw [HO.out]; rfl, ?_⟩
          repeat (first | refine Below.setCell ?_ (by simp <;> omega) _ | refine Below.alloc ?_ (by simp <;> omega) _)
          exact Below.refl _ _
        · replace h0 := nb h0; replace h1 := nb h1; replace h2 := nb h2; replace h3 := nb h3; replace h4 := nb h4; replace h5 := nb h5; replace h6 := nb h6; replace h7 := nb h7; replace h8 := nb h8
          have c1 : (30 : Int) ≤ n := by omega
          have c2 : ¬ n ≤ 37 := by omega
          have c3 : (40 : Int) ≤ n := by omega
          have c4 : ¬ n ≤ 47 := by omega
          go_enter Tryz.func71, Tryz.ntmps71
          go_wp2_with fail
          refine bodyPost_ret (v := .agg #[.int .i64 fg, .int .i64 bg, .bool b, .bool u, .bool t]) (by simp [results, Tryz.results71, go_sem]) rfl ⟨by rw [HO.out]; rfl, ?_⟩
          repeat (first | refine Below.setCell ?_ (by simp <;> omega) _ | refine Below.alloc ?_ (by simp <;> omega) _)
          exact Below.refl _ _
end Go.Proofs.YtgnpgkkjcloghaaGreat.Attr
