/- Texts that lay in modules of their own: ScTabs, ScSzD, ScSzA. -/
import Derived.Test.YtbifbeahakchjaaAppOne
import Derived.Test.YtbifbeahakchjaaGrCopy
import Derived.Test.YtbifbeahakchjaaKitV
import Derived.Test.YtbifbeahakchjaaGrPasteM
import Derived.Test.YtbifbeahakchjaaScCopy
namespace Go.Proofs.Ytbifbeahakchjaa.Sc
open Go.RowKit Go.Proofs.Ytbifbeahakchjaa.Bytes Go.Proofs.Ytbifbeahakchjaa.Rows_ Go.Proofs.Ytbifbeahakchjaa.RowK Go.Proofs.Ytbifbeahakchjaa.Gr Go.Proofs.Ytbifbeahakchjaa.DOk
set_option linter.unusedVariables false
def tabsK (k : Nat) : List Int := (List.range k).map fun i : Nat => 8 * (i : Int) + 8
theorem tabsK_succ (k : Nat) : tabsK (k + 1) = tabsK k ++ [8 * (k : Int) + 8] := by simp [tabsK, List.range_succ]
theorem tabsK_len (k : Nat) : (tabsK k).length = k := by simp [tabsK]
def AnsTabs (n : Nat) (w : World) (e : Ending) (w' : World) : Prop := ∃ A c, e = .returned (.slice A n c) ∧ OwnI w' w.heap.size A n c (tabsK n) ∧ Below w.heap.size w w'
theorem iv_snoc (zs : List Int) (z : Int) : iv zs ++ [.int .i64 z] = iv (zs ++ [z]) := by simp [iv]
set_option maxRecDepth 100000 in
set_option maxHeartbeats 1600000 in
theorem newTabs_any (W : Nat) (w : World) (h1 : 1 ≤ W) (h2 : W ≤ 120) : Calls Try.prog 130 #[.int .i64 (W : Int)] w (AnsTabs ((W - 1) / 8) w) := by
  obtain ⟨i0, hi, hz0, hz1, hz2⟩ := info_parts intInfo
  obtain ⟨n, hn⟩ : ∃ n, n = (W - 1) / 8 := ⟨_, rfl⟩
  have hn1 : 8 * n + 8 ≥ W := by omega
  have hn2 : 8 * n < W := by omega
  rw [← hn]
  clear hn
  go_enter Try.func130, Try.ntmps130
  go_wp2_with fail
  go_loopw [3, 4] (fun v x wr => ∃ (k : Nat) (A : Option Addr) (c : Nat), k ≤ n ∧ v = .slice A k c ∧ x = .int .i64 (8 * (k : Int) + 8) ∧ OwnI wr w.heap.size A k c (tabsK k) ∧ Below w.heap.size w wr) (fun _ x _ => 1000 - (intOf x).toNat)
  case atStart => exact ⟨0, none, 0, Nat.zero_le _, rfl, rfl, World.ownsRow_nil w _ _ _, Below.refl _ _⟩
  case round =>
    obtain ⟨k, A, c, hk, rfl, rfl, ho, hb⟩ := hrel
    have hz : w.heap.size ≤ wr.heap.size := hb.size
    have HO := Lib.hid ho
    have HB := Lib.hid hb
    clear ho hb
    by_cases hlt : k < n
    · have hlt' : 8 * (k : Int) + 8 < (W : Int) := by omega
      go_wp2_with (at_builtin; refine AppOne.append_one Try.underlying42 hi hz0 hz1 hz2 rfl (by decide) rfl _ _ rfl rfl wr.heap.size rfl rfl HO.out rfl (by omega) (by omega) ?_)
      intro A' c' w' ho' hg' _
      have HO' := Lib.hid (show OwnI w' w.heap.size A' (k + 1) c' (tabsK (k + 1)) by rw [tabsK_succ]; unfold OwnI; rw [← iv_snoc]; exact ho')
      have HB' := Lib.hid (HB.out.grown hg' hz (fun g hg => (HO.out.blk g hg).1))
      clear ho' hg'
      go_wp2_with fail
      exact ⟨⟨k + 1, A', c', by omega, rfl, by go_num, HO'.out, HB'.out⟩, by simp [intOf]; omega⟩
    · obtain rfl : n = k := by omega
      have hlt' : ¬ 8 * (n : Int) + 8 < (W : Int) := by omega
      go_wp2_with fail
      go_ret
      exact ⟨_, _, rfl, HO.out, HB.out⟩
set_option maxRecDepth 100000 in
set_option maxHeartbeats 1600000 in
theorem l09Tabs_any (W : Nat) (w : World) (h1 : 1 ≤ W) (h2 : W ≤ 120) : Calls Try.prog 65 #[.int .i64 (W : Int)] w (AnsTabs ((W - 1) / 8) w) := by
  obtain ⟨i0, hi, hz0, hz1, hz2⟩ := info_parts intInfo
  obtain ⟨n, hn⟩ : ∃ n, n = (W - 1) / 8 := ⟨_, rfl⟩
  have hn1 : 8 * n + 8 ≥ W := by omega
  have hn2 : 8 * n < W := by omega
  rw [← hn]
  clear hn
  go_enter Try.func65, Try.ntmps65
  go_wp2_with fail
  go_loopw [3, 4] (fun v x wr => ∃ (k : Nat) (A : Option Addr) (c : Nat), k ≤ n ∧ v = .slice A k c ∧ x = .int .i64 (8 * (k : Int) + 8) ∧ OwnI wr w.heap.size A k c (tabsK k) ∧ Below w.heap.size w wr) (fun _ x _ => 1000 - (intOf x).toNat)
  case atStart => exact ⟨0, _, 0, Nat.zero_le _, rfl, rfl, own_empty w _ _, (Below.refl w.heap.size w).alloc (Nat.le_refl _) _⟩
  case round =>
    obtain ⟨k, A, c, hk, rfl, rfl, ho, hb⟩ := hrel
    have hz : w.heap.size ≤ wr.heap.size := hb.size
    have HO := Lib.hid ho
    have HB := Lib.hid hb
    clear ho hb
    by_cases hlt : k < n
    · have hlt' : 8 * (k : Int) + 8 < (W : Int) := by omega
      go_wp2_with (at_builtin; refine AppOne.append_one Try.underlying42 hi hz0 hz1 hz2 rfl (by decide) rfl _ _ rfl rfl wr.heap.size rfl rfl HO.out rfl (by omega) (by omega) ?_)
      intro A' c' w' ho' hg' _
      have HO' := Lib.hid (show OwnI w' w.heap.size A' (k + 1) c' (tabsK (k + 1)) by rw [tabsK_succ]; unfold OwnI; rw [← iv_snoc]; exact ho')
      have HB' := Lib.hid (HB.out.grown hg' hz (fun g hg => (HO.out.blk g hg).1))
      clear ho' hg'
      go_wp2_with fail
      exact ⟨⟨k + 1, A', c', by omega, rfl, by go_num, HO'.out, HB'.out⟩, by simp [intOf]; omega⟩
    · obtain rfl : n = k := by omega
      have hlt' : ¬ 8 * (n : Int) + 8 < (W : Int) := by omega
      go_wp2_with fail
      go_ret
      exact ⟨_, _, rfl, HO.out, HB.out⟩
end Go.Proofs.Ytbifbeahakchjaa.Sc
namespace Go.Proofs.Ytbifbeahakchjaa.Sc
open Go.RowKit Go.Proofs.Ytbifbeahakchjaa.Bytes Go.Proofs.Ytbifbeahakchjaa.Rows_ Go.Proofs.Ytbifbeahakchjaa.RowK Go.Proofs.Ytbifbeahakchjaa.Gr Go.Proofs.Ytbifbeahakchjaa.DOk Go.Proofs.Ytbifbeahakchjaa.Opq Go.Proofs.Ytbifbeahakchjaa.Attr
set_option linter.unusedVariables false
def blanksN (w h : Nat) : List CellD := List.replicate (w * h) blankC
/-- a grid laid over blanks, moved up by d rows -/
def layT (w h : Nat) (gw gh : Int) (cs : List CellD) (d : Nat) : GridT := pasteT (w : Int) (h : Int) (blanksN w h) gw gh cs 0 (-(d : Int))
def goneN (y : Int) (h : Nat) : Nat := (y - (h : Int) + 1).toNat
def sizeD (d : ScrD) (w h : Nat) : ScrD :=
  { d with w := w, h := h, mw := (layT w h d.mw d.mh d.M (goneN d.y h)).1, mh := (layT w h d.mw d.mh d.M (goneN d.y h)).2.1, M := (layT w h d.mw d.mh d.M (goneN d.y h)).2.2, aw := (layT w h d.aw d.ah d.A (goneN d.y h)).1, ah := (layT w h d.aw d.ah d.A (goneN d.y h)).2.1, A := (layT w h d.aw d.ah d.A (goneN d.y h)).2.2, x := min d.x ((w : Int) - 1), y := d.y - (goneN d.y h : Int), wrap := false, top := 0, bot := (h : Int) - 1, tabs := tabsK ((w - 1) / 8), sx := min d.sx ((w : Int) - 1), sy := min d.sy ((h : Int) - 1), rows := if d.onAlt then d.rows else keepN d.lim.toNat d.rows (rowsM d.M d.w.toNat (goneN d.y h)) }
theorem lay_len (w h : Nat) (gw gh : Int) (cs : List CellD) (d : Nat) : (layT w h gw gh cs d).2.2.length ≤ w * h := by
  unfold layT pasteT
  split
  · show (mixP _ _ _ _ _ _ _ _).length ≤ _
    rw [mixP_len]; simp [blanksN]
  · simp [zeroT]
theorem sz_size {d : ScrD} {w h : Nat} (hok : okD d = true) (h1 : w * h ≤ 4000) (h2 : w ≤ 120) : szD (sizeD d w h) ≤ 100000 := by
  obtain ⟨W, H, X, Y, T, Bt, L, f⟩ := ok_fit hok
  have l1 := lay_len w h d.mw d.mh d.M (goneN d.y h)
  have l2 := lay_len w h d.aw d.ah d.A (goneN d.y h)
  obtain ⟨hr1, hr2⟩ := ok_rows hok
  have hk : okD { d with rows := if d.onAlt then d.rows else keepN d.lim.toNat d.rows (rowsM d.M d.w.toNat (goneN d.y h)) } = true := by
    cases d.onAlt
    · have e : d.lim.toNat = L := by rw [f.lim]; rfl
      have e2 : d.w.toNat = W := by rw [f.w]; rfl
      rw [e, e2]
      exact ok_keepN hok f (by unfold goneN; rw [f.y]; have := f.y2; omega)
    · exact hok
  obtain ⟨k1, k2⟩ := ok_rows hk
  have k3 := sz_rows k1 k2
  have ht : (tabsK ((w - 1) / 8)).length ≤ 120 := by rw [tabsK_len]; omega
  unfold szD
  obtain ⟨R, hR⟩ : ∃ R, R = (if d.onAlt then d.rows else keepN d.lim.toNat d.rows (rowsM d.M d.w.toNat (goneN d.y h))) := ⟨_, rfl⟩
  have k4 : R.length + (R.map List.length).sum ≤ 100 * 121 := by rw [hR]; exact k3
  have e : (sizeD d w h).rows = R := by rw [hR]; rfl
  rw [e]
  have e1 : (sizeD d w h).M.length ≤ w * h := l1
  have e2 : (sizeD d w h).A.length ≤ w * h := l2
  have e3 : (sizeD d w h).tabs.length ≤ 120 := ht
  omega
end Go.Proofs.Ytbifbeahakchjaa.Sc
namespace Go.Proofs.Ytbifbeahakchjaa.Sc
open Go.RowKit Go.Proofs.Ytbifbeahakchjaa.Bytes Go.Proofs.Ytbifbeahakchjaa.Rows_ Go.Proofs.Ytbifbeahakchjaa.RowK Go.Proofs.Ytbifbeahakchjaa.Gr Go.Proofs.Ytbifbeahakchjaa.DOk Go.Proofs.Ytbifbeahakchjaa.Opq Go.Proofs.Ytbifbeahakchjaa.Attr
noncomputable def szOk (d : ScrD) (gw gh : Int) : Bool := okD d && sizeB gw gh
noncomputable def szF (d : ScrD) (gw gh : Int) : ScrD := if szOk d gw gh then sizeD d gw.toNat gh.toNat else zeroS.data
def AnsSz (d : ScrD) (gw gh : Int) (w : World) (e : Ending) (w' : World) : Prop := ∃ s, e = .returned (.tuple #[.agg (scrA s), .bool (szOk d gw gh)]) ∧ OwnS w' w.heap.size s ∧ s.data = szF d gw gh ∧ Below w.heap.size w w'
theorem ansSz_no {d : ScrD} {gw gh : Int} {w w' : World} (h : szOk d gw gh = false) (hb : Below w.heap.size w w') : AnsSz d gw gh w (.returned (.tuple #[.agg (scrA zeroS), .bool false])) w' :=
  ⟨zeroS, by rw [h], zeroS_own _ _, by unfold szF; rw [h]; rfl, hb⟩
theorem szF_size (d : ScrD) (gw gh : Int) : szD (szF d gw gh) ≤ 1048576 := by
  unfold szF
  cases h : szOk d gw gh
  · show szD zeroS.data ≤ _; simp [szD, ScrS.data, zeroS]
  · unfold szOk at h
    rw [Bool.and_eq_true] at h
    obtain ⟨W, H, rfl, rfl, w1, w2, w3, w4, w5, hN⟩ := sidesS h.2
    have := sz_size h.1 w5 w2
    rw [if_pos rfl, Int.toNat_natCast, Int.toNat_natCast]
    omega
end Go.Proofs.Ytbifbeahakchjaa.Sc
