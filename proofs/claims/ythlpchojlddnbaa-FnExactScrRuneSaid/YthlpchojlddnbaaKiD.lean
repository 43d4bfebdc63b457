/- Words and lemmas, merged (once: ScD, ScDz) -/
import Derived.Test.YthlpchojlddnbaaScOkW
import Derived.Test.YthlpchojlddnbaaGrRollB
import Derived.Test.YthlpchojlddnbaaKiF
import Derived.Test.YthlpchojlddnbaaScEq
namespace Go.Proofs.Ythlpchojlddnbaa.Sc
open Go.RowKit Go.Proofs.Ythlpchojlddnbaa.Bytes Go.Proofs.Ythlpchojlddnbaa.Rows_ Go.Proofs.Ythlpchojlddnbaa.RowK Go.Proofs.Ythlpchojlddnbaa.Gr Go.Proofs.Ythlpchojlddnbaa.DOk Go.Proofs.Ythlpchojlddnbaa.Opq Go.Proofs.Ythlpchojlddnbaa.Attr
set_option linter.unusedVariables false
/-- the numbers of a valid screen -/
structure Fit (d : ScrD) (W H X Y T Bt L : Nat) : Prop where
  w : d.w = W
  h : d.h = H
  mw : d.mw = W
  mh : d.mh = H
  aw : d.aw = W
  ah : d.ah = H
  w1 : 1 ≤ W
  w2 : W ≤ 120
  h1 : 1 ≤ H
  h2 : H ≤ 120
  wh : W * H ≤ 4000
  ml : d.M.length = W * H
  al : d.A.length = W * H
  x : d.x = X
  x2 : X < W
  y : d.y = Y
  y2 : Y < H
  top : d.top = T
  bot : d.bot = Bt
  tb : T ≤ Bt
  bh : Bt < H
  lim : d.lim = L
  l2 : L ≤ 100
  rl : d.rows.length ≤ L
theorem ok_fit {d : ScrD} (h : okD d = true) : ∃ W H X Y T Bt L : Nat, Fit d W H X Y T Bt L := by
  obtain ⟨⟨g1, g2, e1, e2, e3, e4⟩, ⟨c1, c2, c3, c4, c5, c6⟩, ⟨r1, r2, r3, r4, r5, r6, r7⟩, _, _⟩ := okD_iff.1 h
  unfold okG at g1 g2
  rw [Bool.and_eq_true, Bool.and_eq_true] at g1 g2
  obtain ⟨s1, s2, s3⟩ := g1
  obtain ⟨_, t2, t3⟩ := g2
  have s1' : 1 ≤ d.mw ∧ d.mw ≤ 120 ∧ 1 ≤ d.mh ∧ d.mh ≤ 120 ∧ d.mw * d.mh ≤ 4000 := of_decide_eq_true s1
  have s2' := of_decide_eq_true s2
  have t2' := of_decide_eq_true t2
  obtain ⟨W, hW⟩ : ∃ W : Nat, d.w = W := ⟨d.w.toNat, by omega⟩
  obtain ⟨H, hH⟩ : ∃ H : Nat, d.h = H := ⟨d.h.toNat, by omega⟩
  rw [e1, e2, hW, hH] at s1' s2'
  rw [e3, e4, hW, hH] at t2'
  rw [← Int.natCast_mul] at s2' t2'
  have p5 : W * H ≤ 4000 := by have := s1'.2.2.2.2; rw [← Int.natCast_mul] at this; omega
  exact ⟨W, H, d.x.toNat, d.y.toNat, d.top.toNat, d.bot.toNat, d.lim.toNat,
    hW, hH, by rw [e1, hW], by rw [e2, hH], by rw [e3, hW], by rw [e4, hH], by omega, by omega, by omega, by omega, p5, by omega, by omega, by omega, by omega, by omega, by omega, by omega, by omega, by omega, by omega, by omega, by omega, by omega⟩
theorem ok_g {d : ScrD} (h : okD d = true) : okG d.mw d.mh d.M = true ∧ okG d.aw d.ah d.A = true := ⟨(okD_iff.1 h).1.1, (okD_iff.1 h).1.2.1⟩
/-! ### what the operations make of a screen -/
def shD (d : ScrD) : List CellD := if d.onAlt then d.A else d.M
def putD (d : ScrD) (cs : List CellD) : ScrD := if d.onAlt then { d with A := cs } else { d with M := cs }
def clampD (x hi : Int) : Int := clampV x 0 hi
def goD (d : ScrD) (x y : Int) : ScrD := { d with x := clampD x (d.w - 1), y := clampD y (d.h - 1), wrap := false }
def rollC (d : ScrD) (top bot n : Int) : List CellD := over (shD d) (top * d.w).toNat (shiftL (shD d) (top * d.w).toNat ((bot + 1 - top) * d.w).toNat (-(d.w * clampV n (-d.h) d.h)))
def rowD (d : ScrD) (y : Nat) : List CellD := (d.M.drop (y * d.w.toNat)).take d.w.toNat
def keepL (lim : Nat) (rows : List (List CellD)) (r : List CellD) : List (List CellD) := (rows ++ [r]).drop (rows.length + 1 - lim)
def keepD (d : ScrD) (y : Nat) : ScrD := { d with rows := keepL d.lim.toNat d.rows (rowD d y) }
def keepsB (d : ScrD) : Bool := !d.onAlt && decide (d.top = 0)
def roll1D (d : ScrD) : ScrD := putD (if keepsB d then keepD d 0 else d) (rollC d d.top d.bot 1)
def downD (d : ScrD) : ScrD := if d.y = d.bot then roll1D { d with wrap := false } else { d with wrap := false, y := min (d.y + 1) (d.h - 1) }
/-- what a function answers of a screen: f of a valid one, else the zero value -/
noncomputable def okF (f : ScrD → ScrD) (d : ScrD) : ScrD := if okD d = true then f d else ⟨0, 0, 0, 0, [], 0, 0, [], false, 0, 0, false, 0, 0, false, false, false, 0, 0, false, false, 0, 0, 0, 0, false, false, false, [], 0, []⟩
theorem okF_yes {f : ScrD → ScrD} {d : ScrD} (h : okD d = true) : okF f d = f d := by unfold okF; rw [if_pos h]
theorem okF_no {f : ScrD → ScrD} {d : ScrD} (h : okD d = false) : okF f d = ⟨0, 0, 0, 0, [], 0, 0, [], false, 0, 0, false, 0, 0, false, false, false, 0, 0, false, false, 0, 0, 0, 0, false, false, false, [], 0, []⟩ := by unfold okF; rw [if_neg (by rw [h]; decide)]
end Go.Proofs.Ythlpchojlddnbaa.Sc
namespace Go.Proofs.Ythlpchojlddnbaa.Sc
open Go.RowKit Go.Proofs.Ythlpchojlddnbaa.Bytes Go.Proofs.Ythlpchojlddnbaa.Rows_ Go.Proofs.Ythlpchojlddnbaa.RowK Go.Proofs.Ythlpchojlddnbaa.Gr Go.Proofs.Ythlpchojlddnbaa.DOk Go.Proofs.Ythlpchojlddnbaa.Opq Go.Proofs.Ythlpchojlddnbaa.Attr
set_option linter.unusedVariables false
theorem okT_len : ∀ (last w : Int) (l : List Int), okT last w l = true → last ≤ w → (l.length : Int) ≤ w - last
  | last, w, [], _, h => by simp; omega
  | last, w, t :: l, h, hw => by
    rw [okT, Bool.and_eq_true] at h
    have h1 := of_decide_eq_true h.1
    have h2 := okT_len t w l h.2 (by omega)
    simp only [List.length_cons]; omega
theorem sum_le (c : Nat) : ∀ (l : List Nat), (∀ x ∈ l, x ≤ c) → l.sum ≤ l.length * c
  | [], _ => by simp
  | x :: l, h => by
    have h1 := h x (by simp)
    have h2 := sum_le c l (fun y hy => h y (by simp [hy]))
    rw [List.sum_cons, List.length_cons, Nat.add_mul]; omega
theorem okRow_le120 {r : List CellD} (h : okRow r = true) : r.length ≤ 120 := by
  unfold okRow at h; rw [Bool.and_eq_true] at h; exact (of_decide_eq_true h.1).2
theorem ok_tabs {d : ScrD} (h : okD d = true) : d.tabs.length ≤ 121 := by
  obtain ⟨W, H, X, Y, T, Bt, L, f⟩ := ok_fit h
  have h0 := f.w
  have h2 := f.w2
  have h1 := okT_len _ _ _ (okD_iff.1 h).2.2.2.1 (by omega)
  omega
theorem ok_rows {d : ScrD} (h : okD d = true) : d.rows.length ≤ 100 ∧ (∀ r ∈ d.rows, r.length ≤ 120) := by
  obtain ⟨W, H, X, Y, T, Bt, L, f⟩ := ok_fit h
  refine ⟨by have := f.rl; have := f.l2; omega, fun r hr => ?_⟩
  exact okRow_le120 (List.all_eq_true.1 (okD_iff.1 h).2.2.2.2 r hr)
theorem sz_rows {rows : List (List CellD)} {n : Nat} (h1 : rows.length ≤ n) (h2 : ∀ r ∈ rows, r.length ≤ 120) : rows.length + (rows.map List.length).sum ≤ n * 121 := by
  have h3 := sum_le 120 (rows.map List.length) (fun x hx => by obtain ⟨r, hr, rfl⟩ := List.mem_map.1 hx; exact h2 r hr)
  rw [List.length_map] at h3
  have h4 : rows.length * 120 ≤ n * 120 := Nat.mul_le_mul_right _ h1
  omega
theorem ok_size {d : ScrD} (h : okD d = true) : szD d ≤ 30000 := by
  obtain ⟨W, H, X, Y, T, Bt, L, f⟩ := ok_fit h
  have h1 := ok_tabs h
  obtain ⟨h2, h3⟩ := ok_rows h
  have h4 := sz_rows h2 h3
  have := f.ml; have := f.al; have := f.wh
  unfold szD; omega
theorem sz_okF {F : ScrD → ScrD} {d : ScrD} (h : okD d = true → szD (F d) ≤ 100000) : szD (okF F d) ≤ 1048576 := by
  cases ho : okD d
  · rw [okF_no ho]; simp [szD]
  · rw [okF_yes ho]; have := h ho; omega
theorem sz_go (d : ScrD) (x y : Int) : szD (okF (fun d => goD d x y) d) ≤ 1048576 := sz_okF fun h => by
  have := ok_size h; show szD (goD d x y) ≤ _; have e : szD (goD d x y) = szD d := rfl; omega
end Go.Proofs.Ythlpchojlddnbaa.Sc

