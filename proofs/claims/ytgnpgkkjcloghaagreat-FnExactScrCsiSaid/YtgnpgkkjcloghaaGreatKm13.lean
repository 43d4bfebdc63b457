/- Texts that lay in modules of their own: GrShiftT, CsW. -/
import Derived.Test.YtgnpgkkjcloghaaGreatCsQ
import Derived.Test.YtgnpgkkjcloghaaGreatKiX
set_option linter.unusedVariables false
namespace Go.Proofs.YtgnpgkkjcloghaaGreat.Gr
open Go.RowKit Bytes Rows_ RowK
def shiftT (gw gh : Int) (cs : List CellD) (x y d : Int) : GridT :=
  if okG gw gh cs && inB gw gh x y then (gw, gh, over cs (y * gw + x).toNat (shiftL cs (y * gw + x).toNat (gw - x).toNat d)) else zeroT
theorem shiftT_no {gw gh x y d : Int} {cs : List CellD} (h : (okG gw gh cs && inB gw gh x y) = false) : shiftT gw gh cs x y d = zeroT := by unfold shiftT; rw [h]; rfl
theorem shiftT_yes {W H x y : Nat} {d : Int} {cs : List CellD} (h : (okG (W : Int) (H : Int) cs && inB (W : Int) (H : Int) (x : Int) (y : Int)) = true) (hx : x < W) : shiftT (W : Int) (H : Int) cs (x : Int) (y : Int) d = ((W : Int), (H : Int), over cs (y * W + x) (shiftL cs (y * W + x) (W - x) d)) := by
  unfold shiftT; rw [h, ← Int.natCast_mul, ← Int.natCast_add, show ((W : Int) - (x : Int)).toNat = W - x by omega]; rfl
end Go.Proofs.YtgnpgkkjcloghaaGreat.Gr
namespace Go.Proofs.YtgnpgkkjcloghaaGreat.Sc
open Go.RowKit Bytes Rows_ RowK Gr DOk Opq Attr
attribute [local go_sem ↓] Sc.exec_storeS Sc.exec_loadS
attribute [local go_sem] rowOf_drew blkOf_ptr isHead_ptr aggN_agg setRow_alloc rowZ_at rowZ_past scrA_size one_scr rowOf_alloc_at rowOf_alloc_past
attribute [local go_sem] sa_w sa_h sa_mw sa_mh sa_M sa_aw sa_ah sa_A sa_onAlt sa_x sa_y sa_wrap sa_fg sa_bg sa_b sa_u sa_t sa_top sa_bot sa_noWrap sa_hide sa_sx sa_sy sa_sfg sa_sbg sa_sb sa_su sa_st sa_tabs sa_lim sa_rows
attribute [local go_sem] scr_at0 scr_at1 scr_at2 scr_at3 scr_at4 scr_at5 scr_at6 scr_at7 scr_at8 scr_at9 scr_at10 scr_at11 scr_at12 scr_at13 scr_at14 scr_at15 scr_at16 scr_at17 scr_at18 scr_at19 scr_at20 scr_at21 scr_at22 scr_at23 scr_at24 scr_at25 scr_at26 scr_at27 scr_at28 scr_at29 scr_at30
theorem row_div {W Y r : Nat} (h : r < W) : (Y * W + r) / W = Y := by
  rw [Nat.add_comm, Nat.add_mul_div_right _ _ (by omega), Nat.div_eq_of_lt h, Nat.zero_add]
theorem row_mod {W Y r : Nat} (h : r < W) : (Y * W + r) % W = r := by
  rw [Nat.add_comm, Nat.add_mul_mod_self_right, Nat.mod_eq_of_lt h]
theorem mix_row {cs : List CellD} {W H X Y : Nat} {n : Int} {z : CellD} (hl : cs.length = W * H) (hx : X < W) (hy : Y < H) (hn : 1 ≤ n) :
    mixL cs W (X : Int) (Y : Int) n 1 z H = over cs (Y * W + X) (List.replicate (min n ((W : Int) - (X : Int))).toNat z) := by
  obtain ⟨j, hj⟩ : ∃ j : Nat, j = (min n ((W : Int) - (X : Int))).toNat := ⟨_, rfl⟩
  rw [← hj]
  have hyl : Y * W + W ≤ W * H := by
    rw [Nat.mul_comm W H]
    have := Nat.mul_le_mul_right W (show Y + 1 ≤ H by omega)
    rw [Nat.add_mul, Nat.one_mul] at this; exact this
  have hjb : X + j ≤ W := by omega
  have hg : ∀ i, i < cs.length → (mixL cs W (X : Int) (Y : Int) n 1 z H)[i]? = if (Y * W + X ≤ i ∧ i < Y * W + X + j) then some z else cs[i]? := by
    intro i hi
    rw [mixL_get hi]
    obtain ⟨q, hq⟩ : ∃ q, q = i / W := ⟨_, rfl⟩
    obtain ⟨m, hm⟩ : ∃ m, m = i % W := ⟨_, rfl⟩
    have hdm : W * q + m = i := by rw [hq, hm]; exact Nat.div_add_mod i W
    have hmW : m < W := by rw [hm]; exact Nat.mod_lt _ (by omega)
    by_cases hc : Y * W + X ≤ i ∧ i < Y * W + X + j
    · have hi2 : i = Y * W + (i - Y * W) := by omega
      have hr : i - Y * W < W := by omega
      have eq1 : q = Y := by rw [hq, hi2]; exact row_div hr
      have em1 : m = i - Y * W := by rw [hm]; exact (congrArg (· % W) hi2).trans (row_mod hr)
      have hf : inF W (X : Int) (Y : Int) n 1 i = true := decide_eq_true (by rw [← hq, ← hm, eq1, em1]; omega)
      have hd : decide (i / W < H) = true := decide_eq_true (by rw [← hq, eq1]; exact hy)
      rw [hf, hd, if_pos hc]; rfl
    · have hf : inF W (X : Int) (Y : Int) n 1 i = false := decide_eq_false (by
        rw [← hq, ← hm]
        rintro ⟨a1, a2, a3, a4⟩
        have eq1 : q = Y := by omega
        rw [eq1, Nat.mul_comm W Y] at hdm
        exact hc ⟨by omega, by omega⟩)
      rw [hf, Bool.and_false, if_neg hc, List.getElem?_eq_getElem hi]; rfl
  refine over_ext (by rw [List.length_replicate]; omega) (mixL_len _ _ _ _ _ _ _ _) (fun i hi => ?_) (fun i hi => ?_) (fun i hi => ?_)
  · by_cases h : i < cs.length
    · rw [hg i h, if_neg (by omega)]
    · omega
  · rw [List.length_replicate] at hi
    rw [hg _ (by omega), if_pos ⟨by omega, by omega⟩, List.getElem?_replicate, if_pos hi]
  · rw [List.length_replicate] at hi
    by_cases h : i < cs.length
    · rw [hg i h, if_neg (by omega)]
    · rw [List.getElem?_eq_none (by rw [mixL_len]; omega), List.getElem?_eq_none (by omega)]
theorem fillX_ok {s : ScrS} (h : okD s.data = true) {n : Int} (hn : 1 ≤ n) (hn2 : n ≤ 9999) : fillT (shW s) (shH s) (shC s).cs s.x s.y n 1 ⟨32, 0, 0, false, false, false⟩ = (shW s, shH s, over (shD s.data) (atD s.data) (List.replicate (min n (s.data.w - s.data.x)).toNat blankC)) := by
  obtain ⟨e1, e2, g⟩ := sh_ok h
  obtain ⟨W, H, X, Y, T, Bt, L, f⟩ := ok_fit h
  obtain ⟨f1, f2, f3⟩ := at_fit f
  have ex : s.x = (X : Int) := f.x
  have ey : s.y = (Y : Int) := f.y
  have ew : s.w = (W : Int) := f.w
  have eh : s.h = (H : Int) := f.h
  have := f.x2; have := f.y2; have := f.w2; have := f.h2
  have hg : goodF (shW s) (shH s) (shC s).cs s.x s.y n 1 ⟨32, 0, 0, false, false, false⟩ = true := by
    unfold goodF
    rw [g, show okC ⟨32, 0, 0, false, false, false⟩ = true from okC_blank, show smallB s.x = true from decide_eq_true (by omega), show smallB s.y = true from decide_eq_true (by omega), show smallB n = true from decide_eq_true (by omega), show smallB 1 = true from by decide]; rfl
  unfold fillT
  rw [hg, if_pos rfl, f1, f.w, f.x, ← mix_row (sh_len f) f.x2 f.y2 hn, sh_data, e1, e2, ew, eh, ex, ey]; rfl
theorem shiftX_ok {s : ScrS} (h : okD s.data = true) (n : Int) : shiftT (shW s) (shH s) (shC s).cs s.x s.y n = (shW s, shH s, over (shD s.data) (atD s.data) (shiftL (shD s.data) (atD s.data) (s.data.w - s.data.x).toNat n)) := by
  obtain ⟨e1, e2, g⟩ := sh_ok h
  obtain ⟨W, H, X, Y, T, Bt, L, f⟩ := ok_fit h
  have ex : s.x = (X : Int) := f.x
  have ey : s.y = (Y : Int) := f.y
  have ew : s.w = (W : Int) := f.w
  have eh : s.h = (H : Int) := f.h
  have := f.x2; have := f.y2
  have hi : inB (shW s) (shH s) s.x s.y = true := decide_eq_true (by rw [e1, e2]; omega)
  unfold shiftT
  rw [g, hi, Bool.and_self, if_pos rfl, e1, e2, sh_data]; rfl
end Go.Proofs.YtgnpgkkjcloghaaGreat.Sc
