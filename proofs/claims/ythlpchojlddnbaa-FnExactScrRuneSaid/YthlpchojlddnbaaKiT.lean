/- Words and lemmas, merged (once: ScPres, ScDownZ, ScCtlD, ScDrawD) -/
import Derived.Test.YthlpchojlddnbaaKiVW
namespace Go.Proofs.Ythlpchojlddnbaa.Sc
open Go.RowKit Go.Proofs.Ythlpchojlddnbaa.Bytes Go.Proofs.Ythlpchojlddnbaa.Rows_ Go.Proofs.Ythlpchojlddnbaa.RowK Go.Proofs.Ythlpchojlddnbaa.Gr Go.Proofs.Ythlpchojlddnbaa.DOk Go.Proofs.Ythlpchojlddnbaa.Opq Go.Proofs.Ythlpchojlddnbaa.Attr
set_option linter.unusedVariables false
theorem okC_blank : okC blankC = true := by decide
theorem all_over {cs new : List CellD} {lo : Nat} (h : cs.all okC = true) (hn : new.all okC = true) : (over cs lo new).all okC = true := by
  rw [List.all_eq_true] at *
  intro x hx
  unfold over at hx
  rcases List.mem_append.1 hx with hx | hx
  · rcases List.mem_append.1 hx with hx | hx
    · exact h x (List.mem_of_mem_take hx)
    · exact hn x hx
  · exact h x (List.mem_of_mem_drop hx)
theorem all_getD {cs : List CellD} (h : cs.all okC = true) (i : Nat) : okC (cs.getD i blankC) = true := by
  rw [List.all_eq_true] at h
  by_cases hi : i < cs.length
  · have e : cs.getD i blankC = cs[i] := by simp [List.getD, hi]
    rw [e]; exact h _ (List.getElem_mem hi)
  · have e : cs.getD i blankC = blankC := by simp [List.getD, List.getElem?_eq_none (show cs.length ≤ i by omega)]
    rw [e]; exact okC_blank
theorem all_shift {cs : List CellD} (h : cs.all okC = true) (lo m : Nat) (d : Int) : (shiftL cs lo m d).all okC = true := by
  rw [List.all_eq_true]
  intro x hx
  unfold shiftL at hx
  obtain ⟨i, _, rfl⟩ := List.mem_map.1 hx
  split
  · exact all_getD h _
  · exact okC_blank
theorem all_mix {cs : List CellD} {z : CellD} (h : cs.all okC = true) (hz : okC z = true) (W : Nat) (x y w hh : Int) (r : Nat) : (mixL cs W x y w hh z r).all okC = true := by
  rw [List.all_eq_true]
  intro c hc
  obtain ⟨i, hi, rfl⟩ := List.mem_iff_getElem.1 hc
  have hi' : i < cs.length := by rw [mixL_len] at hi; exact hi
  have e := mixL_get (W := W) (x := x) (y := y) (w := w) (h := hh) (z := z) (r := r) hi'
  rw [List.getElem?_eq_getElem hi] at e
  injection e with e
  rw [e]
  split
  · exact hz
  · exact List.all_eq_true.1 h _ (List.getElem_mem hi')
theorem okG_cells {gw gh : Int} {cs cs' : List CellD} (h : okG gw gh cs = true) (hl : cs'.length = cs.length) (ha : cs'.all okC = true) : okG gw gh cs' = true := by
  unfold okG at *
  rw [Bool.and_eq_true, Bool.and_eq_true] at h
  rw [h.1, ha, hl, h.2.1]; rfl
theorem okG_all {gw gh : Int} {cs : List CellD} (h : okG gw gh cs = true) : cs.all okC = true := by
  unfold okG at h
  rw [Bool.and_eq_true, Bool.and_eq_true] at h; exact h.2.2
theorem ok_shall {d : ScrD} (h : okD d = true) : (shD d).all okC = true := by
  have h1 := ok_g h
  unfold shD; cases d.onAlt
  · exact okG_all h1.1
  · exact okG_all h1.2
theorem ok_put {d : ScrD} {cs : List CellD} (h : okD d = true) (hl : cs.length = (shD d).length) (ha : cs.all okC = true) : okD (putD d cs) = true := by
  obtain ⟨⟨g1, g2, e⟩, h2⟩ := okD_iff.1 h
  unfold shD at hl
  unfold putD
  cases ho : d.onAlt <;> rw [ho] at hl
  · exact okD_t ⟨⟨okG_cells g1 hl ha, g2, e⟩, h2⟩
  · exact okD_t ⟨⟨g1, okG_cells g2 hl ha, e⟩, h2⟩
theorem ok_wrapF {d : ScrD} (h : okD d = true) : okD { d with wrap := false } = true := by
  obtain ⟨h1, ⟨a, b, c, e, f, g⟩, h2⟩ := okD_iff.1 h
  exact okD_t ⟨h1, ⟨a, b, c, e, (fun hh => by cases hh), g⟩, h2⟩
/-- the cursor anywhere on the screen -/
theorem ok_at {d : ScrD} (h : okD d = true) (x y : Int) (wr : Bool) (hx : 0 ≤ x ∧ x < d.w) (hy : 0 ≤ y ∧ y < d.h) (hw : wr = true → x = d.w - 1) : okD { d with x := x, y := y, wrap := wr } = true := by
  obtain ⟨h1, ⟨a, b, c, e, f, g⟩, h2⟩ := okD_iff.1 h
  exact okD_t ⟨h1, ⟨hx.1, hx.2, hy.1, hy.2, hw, g⟩, h2⟩
theorem rollC_all {d : ScrD} (h : okD d = true) (top bot n : Int) : (rollC d top bot n).all okC = true := all_over (ok_shall h) (all_shift (ok_shall h) _ _ _)
theorem ok_rows_step {d : ScrD} {rows : List (List CellD)} (h : okD d = true) (hl : rows.length ≤ d.lim.toNat) (ha : rows.all okRow = true) : okD { d with rows := rows } = true := by
  obtain ⟨h1, h2, ⟨a, b, c, e, f, g, i⟩, h4, h5⟩ := okD_iff.1 h
  exact okD_t ⟨h1, h2, ⟨a, b, c, e, f, g, by show (rows.length : Int) ≤ d.lim; omega⟩, h4, ha⟩
theorem rowsM_ok {d : ScrD} {W H X Y T Bt L : Nat} (h : okD d = true) (f : Fit d W H X Y T Bt L) {k : Nat} (hk : k ≤ H) : (rowsM d.M W k).all okRow = true := by
  rw [List.all_eq_true]
  intro r hr
  unfold rowsM at hr
  obtain ⟨y, hy, rfl⟩ := List.mem_map.1 hr
  have hyk : y < k := List.mem_range.1 hy
  have h1 : (y + 1) * W ≤ H * W := Nat.mul_le_mul_right _ (by omega)
  rw [Nat.add_mul, Nat.one_mul, Nat.mul_comm H W] at h1
  have hl : ((d.M.drop (y * W)).take W).length = W := by
    have := f.ml; simp; omega
  unfold okRow
  rw [decide_eq_true (by rw [hl]; exact ⟨f.w1, f.w2⟩), Bool.true_and]
  have ha := okG_all (ok_g h).1
  rw [List.all_eq_true] at ha ⊢
  exact fun x hx => ha x (List.mem_of_mem_drop (List.mem_of_mem_take hx))
theorem ok_keepN {d : ScrD} {W H X Y T Bt L : Nat} (h : okD d = true) (f : Fit d W H X Y T Bt L) {k : Nat} (hk : k ≤ H) : okD { d with rows := keepN L d.rows (rowsM d.M W k) } = true := by
  refine ok_rows_step h ?_ ?_
  · unfold keepN; rw [List.length_drop, List.length_append, f.lim, Int.toNat_natCast]; omega
  · have h1 := (okD_iff.1 h).2.2.2.2
    have h2 := rowsM_ok h f hk
    unfold keepN
    rw [List.all_eq_true] at *
    intro r hr
    rcases List.mem_append.1 (List.mem_of_mem_drop hr) with hr | hr
    · exact h1 r hr
    · exact h2 r hr
theorem ok_keep0 {d : ScrD} (h : okD d = true) : okD (keepD d 0) = true := by
  obtain ⟨W, H, X, Y, T, Bt, L, f⟩ := ok_fit h
  have e : keepD d 0 = { d with rows := keepN L d.rows (rowsM d.M W 1) } := by
    unfold keepD keepL keepN rowD rowsM
    rw [f.lim, f.w]; simp
  rw [e]; exact ok_keepN h f (by have := f.h1; omega)
theorem ok_roll1 {d : ScrD} (h : okD d = true) : okD (roll1D d) = true := by
  obtain ⟨W, H, X, Y, T, Bt, L, f⟩ := ok_fit h
  have hl := rollC_len f 1
  have ha := rollC_all h d.top d.bot 1
  unfold roll1D
  cases keepsB d
  · exact ok_put h hl ha
  · exact ok_put (ok_keep0 h) hl ha
theorem ok_down {d : ScrD} (h : okD d = true) : okD (downD d) = true := by
  obtain ⟨W, H, X, Y, T, Bt, L, f⟩ := ok_fit h
  unfold downD
  by_cases hy : d.y = d.bot
  · rw [if_pos hy]; exact ok_roll1 (ok_wrapF h)
  · rw [if_neg hy]
    have e1 := f.x; have e2 := f.y; have e3 := f.w; have e4 := f.h; have g1 := f.x2; have g2 := f.y2; have g3 := f.h1
    exact ok_at h d.x (min (d.y + 1) (d.h - 1)) false (by omega) (by omega) (by simp)
/-! ### writing a rune -/
def cellD (d : ScrD) (r : Int) : CellD := ⟨r, d.fg, d.bg, d.b, d.u, d.t⟩
def fillD (d : ScrD) (x y w h : Int) (z : CellD) : List CellD := mixL (shD d) d.w.toNat x y w h z d.h.toNat
def setD (d : ScrD) (r : Int) : ScrD := putD d (fillD d d.x d.y 1 1 (cellD d r))
def advD (d : ScrD) : ScrD := if d.x = d.w - 1 then { d with wrap := !d.noWrap } else { d with x := d.x + 1 }
def wrD (d : ScrD) : ScrD := if d.wrap then { downD d with x := 0 } else d
def runeD (d : ScrD) (r : Int) : ScrD := if Rune.showB r = true then advD (setD (wrD d) r) else d
theorem put_x (d : ScrD) (cs : List CellD) : (putD d cs).x = d.x ∧ (putD d cs).w = d.w ∧ (putD d cs).h = d.h ∧ (putD d cs).y = d.y ∧ (putD d cs).wrap = d.wrap ∧ (putD d cs).noWrap = d.noWrap ∧ (putD d cs).fg = d.fg ∧ (putD d cs).bg = d.bg := by
  unfold putD; split <;> exact ⟨rfl, rfl, rfl, rfl, rfl, rfl, rfl, rfl⟩
theorem roll1_x (d : ScrD) : (roll1D d).x = d.x ∧ (roll1D d).w = d.w ∧ (roll1D d).h = d.h ∧ (roll1D d).y = d.y ∧ (roll1D d).wrap = d.wrap ∧ (roll1D d).noWrap = d.noWrap ∧ (roll1D d).fg = d.fg ∧ (roll1D d).bg = d.bg := by
  unfold roll1D
  cases keepsB d
  · exact put_x d _
  · exact put_x (keepD d 0) _
theorem down_x (d : ScrD) : (downD d).x = d.x ∧ (downD d).w = d.w ∧ (downD d).h = d.h ∧ (downD d).wrap = false := by
  unfold downD
  split
  · obtain ⟨h1, h2, h3, h4, h5, _⟩ := roll1_x { d with wrap := false }
    exact ⟨h1, h2, h3, h5⟩
  · exact ⟨rfl, rfl, rfl, rfl⟩
theorem ok_wr {d : ScrD} (h : okD d = true) : okD (wrD d) = true := by
  unfold wrD
  split
  · obtain ⟨h1, h2, h3, h4⟩ := down_x d
    have hd := ok_down h
    obtain ⟨W, H, X, Y, T, Bt, L, f⟩ := ok_fit hd
    have := f.y; have := f.y2; have := f.h; have := f.w; have := f.w1
    exact ok_at hd 0 (downD d).y (downD d).wrap (by omega) (by omega) (by rw [h4]; simp)
  · exact h
theorem fillD_len (d : ScrD) (x y w h : Int) (z : CellD) : (fillD d x y w h z).length = (shD d).length := mixL_len _ _ _ _ _ _ _ _
theorem ok_set {d : ScrD} (h : okD d = true) {r : Int} (hr : Rune.showB r = true) : okD (setD d r) = true := by
  have ha : okA d.fg d.bg = true := (okD_iff.1 h).2.1.2.2.2.2.2.2.2.2.2.1
  exact ok_put h (fillD_len _ _ _ _ _ _) (all_mix (ok_shall h) (by unfold okC cellD; rw [hr, ha]; rfl) _ _ _ _ _ _)
theorem ok_adv {d : ScrD} (h : okD d = true) (hw : d.wrap = false ∨ d.x = d.w - 1) : okD (advD d) = true := by
  obtain ⟨W, H, X, Y, T, Bt, L, f⟩ := ok_fit h
  have e1 := f.x; have e2 := f.y; have e3 := f.w; have e4 := f.h; have g1 := f.x2; have g2 := f.y2
  unfold advD
  split
  · rename_i hx
    exact ok_at h d.x d.y (!d.noWrap) (by omega) (by omega) (fun _ => hx)
  · rename_i hx
    have hwf : d.wrap = false := hw.resolve_right hx
    have := ok_at h (d.x + 1) d.y d.wrap (by omega) (by omega) (by rw [hwf]; simp)
    exact this
theorem set_x (d : ScrD) (r : Int) : (setD d r).x = d.x ∧ (setD d r).w = d.w ∧ (setD d r).wrap = d.wrap ∧ (setD d r).noWrap = d.noWrap := by
  obtain ⟨h1, h2, _, _, h5, h6, _⟩ := put_x d (fillD d d.x d.y 1 1 (cellD d r))
  exact ⟨h1, h2, h5, h6⟩
theorem ok_wrapX {d : ScrD} (h : okD d = true) (hw : d.wrap = true) : d.x = d.w - 1 := (okD_iff.1 h).2.1.2.2.2.2.1 hw
theorem ok_rune {d : ScrD} (h : okD d = true) (r : Int) : okD (runeD d r) = true := by
  unfold runeD
  split
  · rename_i hr
    have h1 := ok_wr h
    have h2 := ok_set h1 hr
    refine ok_adv h2 ?_
    obtain ⟨e1, e2, e3, e4⟩ := set_x (wrD d) r
    rw [e1, e2, e3]
    cases hwr : (wrD d).wrap
    · exact .inl rfl
    · exact .inr (ok_wrapX h1 hwr)
  · exact h
theorem sz_rune (d : ScrD) (r : Int) : szD (okF (fun d => runeD d r) d) ≤ 1048576 := sz_okF fun h => by
  have := ok_size (ok_rune h r); show szD (runeD d r) ≤ _; omega
/-- one cell filled is one cell set -/
theorem mix_one {cs : List CellD} {W H : Nat} {z : CellD} {x y : Nat} (hn : cs.length = W * H) (hx : x < W) (hy : y < H) : mixL cs W (x : Int) (y : Int) 1 1 z H = cs.set (y * W + x) z := by
  symm
  refine mixL_ext (by simp) fun i hi => ?_
  rw [List.getElem?_set]
  have hiH : i / W < H := Nat.div_lt_of_lt_mul (by rw [← hn]; exact hi)
  by_cases hi2 : y * W + x = i
  · have h1 : i / W = y := by rw [← hi2, Nat.add_comm, Nat.add_mul_div_right _ _ (by omega), Nat.div_eq_of_lt hx, Nat.zero_add]
    have h2 : i % W = x := by rw [← hi2, Nat.add_comm, Nat.add_mul_mod_self_right, Nat.mod_eq_of_lt hx]
    rw [if_pos hi2, if_pos (by omega)]
    have hin : (decide (i / W < H) && inF W (x : Int) (y : Int) 1 1 i) = true := by
      rw [decide_eq_true hiH, Bool.true_and]; unfold inF; exact decide_eq_true (by rw [h1, h2]; omega)
    rw [hin]; rfl
  · rw [if_neg hi2, List.getElem?_eq_getElem hi]
    have hin : inF W (x : Int) (y : Int) 1 1 i = false := decide_eq_false fun ⟨a, b, c, e⟩ => hi2 (by
      have h1 : i % W = x := by omega
      have h2 : i / W = y := by omega
      have := Nat.div_add_mod i W
      rw [h1, h2, Nat.mul_comm] at this; exact this)
    rw [hin, Bool.and_false]; rfl
end Go.Proofs.Ythlpchojlddnbaa.Sc
namespace Go.Proofs.Ythlpchojlddnbaa.Sc
open Go.Proofs.Ythlpchojlddnbaa.Gr
theorem keepL_sz {L : Nat} {rows : List (List CellD)} {r : List CellD} (h1 : rows.length ≤ 100) (h2 : ∀ x ∈ rows, x.length ≤ 120) (h3 : r.length ≤ 120) : (keepL L rows r).length + ((keepL L rows r).map List.length).sum ≤ 101 * 121 := by
  have hall : ∀ x ∈ rows ++ [r], x.length ≤ 120 := fun x hx => by
    rcases List.mem_append.1 hx with hx | hx
    · exact h2 x hx
    · rw [List.mem_singleton] at hx; subst hx; exact h3
  refine sz_rows (n := 101) ?_ (fun x hx => hall x (List.mem_of_mem_drop hx))
  unfold keepL; simp; omega
theorem sz_down (d : ScrD) : szD (okF downD d) ≤ 1048576 := sz_okF fun h => by
  have h1 := ok_size h
  obtain ⟨W, H, X, Y, T, Bt, L, f⟩ := ok_fit h
  obtain ⟨r1, r2⟩ := ok_rows h
  unfold downD
  split
  · unfold roll1D
    have hR := rollC_len f 1
    have hrow : (rowD d 0).length ≤ 120 := by
      unfold rowD; rw [show d.w.toNat = W by rw [f.w]; rfl, List.length_take]; have := f.w2; omega
    have hk := keepL_sz (L := d.lim.toNat) r1 r2 hrow
    have e1 : szD { d with wrap := false } = szD d := rfl
    split
    · refine Nat.le_trans (Nat.le_of_eq (sz_put (d := keepD { d with wrap := false } 0) (cs := rollC d d.top d.bot 1) hR)) ?_
      show d.M.length + d.A.length + d.tabs.length + ((keepL d.lim.toNat d.rows (rowD d 0)).length + ((keepL d.lim.toNat d.rows (rowD d 0)).map List.length).sum) ≤ _
      unfold szD at h1; omega
    · refine Nat.le_trans (Nat.le_of_eq (sz_put (d := { d with wrap := false }) (cs := rollC d d.top d.bot 1) hR)) ?_
      rw [e1]; omega
  · show szD d ≤ _; omega
end Go.Proofs.Ythlpchojlddnbaa.Sc
namespace Go.Proofs.Ythlpchojlddnbaa.Sc
open Go.Proofs.Ythlpchojlddnbaa.Gr
/-- the first stop behind x, else d -/
def tabN (x d : Int) : List Int → Int | [] => d | z :: zs => if x < z then z else tabN x d zs
theorem tabN_drop {x d : Int} {zs : List Int} {k : Nat} (h : k < zs.length) : tabN x d (zs.drop k) = if x < zs[k] then zs[k] else tabN x d (zs.drop (k + 1)) := by
  rw [List.drop_eq_getElem_cons h]; rfl
def ctlD (d : ScrD) (z : Int) : ScrD := if z = 8 then goD d (d.x - 1) d.y else if z = 9 then goD d (tabN d.x (d.w - 1) d.tabs) d.y else if z = 10 ∨ z = 11 ∨ z = 12 then downD d else if z = 13 then goD d 0 d.y else d
theorem sz_ctl (d : ScrD) (z : Int) : szD (okF (fun d => ctlD d z) d) ≤ 1048576 := by
  have h0 := sz_okF (F := fun d => d) (d := d) (fun h => by have := ok_size h; show szD d ≤ _; omega)
  by_cases h : okD d = true
  · rw [okF_yes h] at *
    have g (x y : Int) : szD (goD d x y) ≤ 1048576 := by have h1 := sz_go d x y; rwa [okF_yes h] at h1
    have g2 : szD (downD d) ≤ 1048576 := by have h1 := sz_down d; rwa [okF_yes h] at h1
    show szD (ctlD d z) ≤ _
    unfold ctlD
    split
    · exact g _ _
    · split
      · exact g _ _
      · split
        · exact g2
        · split
          · exact g _ _
          · exact h0
  · have h' : okD d = false := by simpa using h
    rw [okF_no h'] at *; exact h0
end Go.Proofs.Ythlpchojlddnbaa.Sc
namespace Go.Proofs.Ythlpchojlddnbaa.Sc
open Go.Proofs.Ythlpchojlddnbaa.Gr Go.Proofs.Ythlpchojlddnbaa.DOk Go.Proofs.Ythlpchojlddnbaa.Attr
set_option linter.unusedVariables false
end Go.Proofs.Ythlpchojlddnbaa.Sc

