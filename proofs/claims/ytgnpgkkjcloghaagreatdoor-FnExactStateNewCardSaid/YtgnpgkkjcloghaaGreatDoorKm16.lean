/- Texts that lay in modules of their own: GrOk, ScOkW, KiEh, KiO, ScLim. -/
import Derived.Test.YtgnpgkkjcloghaaGreatDoorKm15
import Derived.Test.YtgnpgkkjcloghaaGreatDoorScW
import Derived.Test.YtgnpgkkjcloghaaGreatDoorRows
import Derived.WalkKit
import Derived.Orders
import Derived.Test.YtgnpgkkjcloghaaGreatDoorScSz
import Derived.Deep.Cut
import Derived.Deep.CutRange
import Derived.Deep.DeepCutAuto
import Derived.Outline
namespace Go.Proofs.YtgnpgkkjcloghaaGreatDoor.Gr
open Go.RowKit Go.Proofs.YtgnpgkkjcloghaaGreatDoor.Bytes Go.Proofs.YtgnpgkkjcloghaaGreatDoor.Rows_ Go.Proofs.YtgnpgkkjcloghaaGreatDoor.RowK
set_option linter.unusedVariables false
set_option maxRecDepth 100000 in
set_option maxHeartbeats 1600000 in
theorem areCells_any (A : Option Addr) (n c : Nat) (cs : List CellD) (w : World) (hr : RdC w w.heap.size A cs) (hl : cs.length = n) (hn : n ≤ 1099511627776) :
    Calls Tryz.prog 178 #[.slice A n c] w fun e w' => e = .returned (.bool (cs.all okC)) ∧ Below w.heap.size w w' := by
  have HR := Lib.hid hr
  have HL := Lib.hid hl
  clear hr hl
  go_enter Tryz.func178, Tryz.ntmps178
  go_wp2_with fail
  go_loopw [7] (fun i wr => ∃ k : Nat, k ≤ n ∧ i = .int .i64 k ∧ (cs.take k).all okC = true ∧ Below w.heap.size w wr) (fun i _ => n - (intOf i).toNat)
  case atStart => exact ⟨0, Nat.zero_le _, rfl, by simp, Below.refl _ _⟩
  case round =>
    obtain ⟨k, hk, rfl, ha, hb⟩ := hrel
    have hz : w.heap.size ≤ wr.heap.size := hb.size
    have HA := Lib.hid ha
    clear ha
    by_cases hlt : k < n
    · have hlf : k < cs.length := by rw [HL.out]; exact hlt
      obtain ⟨b, o, rfl, hB, hc0, hc1, hc2, hc3, hc4, hc5⟩ := (HR.out.below (Nat.le_refl _) hb).at_ hlf
      have HB := Lib.hid hb
      clear hb
      have HNX := Lib.hid (fun h => all_next hlf HA.out h)
      have HNO := Lib.hid (fun h => all_no hlf h)
      have HOK := Lib.hid (show okC cs[k] = (Rune.showB cs[k].r && Attr.okA cs[k].fg cs[k].bg) from rfl)
      generalize okC cs[k] = ok at *
      generalize cs[k].r = x0 at *
      generalize cs[k].fg = x1 at *
      generalize cs[k].bg = x2 at *
      generalize cs[k].b = x3 at *
      generalize cs[k].u = x4 at *
      generalize cs[k].t = x5 at *
      go_wp2_with fail
      refine (impl_CellOk_any x0 x1 x2 x3 x4 x5 _).mono ?_
      rintro e v1 ⟨rfl, hb1⟩
      have HB1 := Lib.hid (HB.out.trans (((Below.refl wr.heap.size wr).alloc (Nat.le_refl _) _ |>.trans (hb1.mono (by simp))).mono hz))
      clear hb1
      have HOK' : (Rune.showB x0 && Attr.okA x1 x2) = ok := HOK.out.symm
      rw [HOK']
      clear HOK'
      cases hok : ok
      · subst hok
        go_wp2_with fail
        go_ret
        exact ⟨Attr.rt_bool (HNO.out (by trivial)).symm, HB1.out⟩
      · subst hok
        go_wp2_with fail
        exact ⟨⟨k + 1, by omega, by go_num, HNX.out (by trivial), HB1.out⟩, by simp [intOf]; omega⟩
    · obtain rfl : n = k := by omega
      have HE := Lib.hid (show cs.all okC = true by have := HA.out; rwa [List.take_of_length_le (by rw [HL.out]; exact Nat.le_refl _)] at this)
      go_wp2_with fail
      go_ret
      exact ⟨Attr.rt_bool HE.out.symm, hb⟩
theorem okG_size {gw gh : Int} {cs : List CellD} (h : sizeB gw gh = false) : okG gw gh cs = false := by unfold okG; rw [h]; rfl
theorem okG_len {gw gh : Int} {cs : List CellD} (h : (cs.length : Int) ≠ gw * gh) : okG gw gh cs = false := by unfold okG; rw [decide_eq_false h]; simp
theorem okG_all {gw gh : Int} {cs : List CellD} (h : sizeB gw gh = true) (hl : (cs.length : Int) = gw * gh) : okG gw gh cs = cs.all okC := by unfold okG; rw [h, decide_eq_true hl]; simp

set_option maxRecDepth 100000 in
set_option maxHeartbeats 1600000 in
theorem impl_GridOk_any (gw gh : Int) (A : Option Addr) (n c : Nat) (cs : List CellD) (w : World) (hr : RdC w w.heap.size A cs) (hl : cs.length = n) (hn : n ≤ 1099511627776) :
    Calls Tryz.prog 176 #[.agg #[.int .i64 gw, .int .i64 gh, .slice A n c]] w fun e w' => e = .returned (.bool (okG gw gh cs)) ∧ Below w.heap.size w w' := by
  have HR := Lib.hid hr
  have HL := Lib.hid hl
  clear hr hl
  have hb0 := Lib.hid ((Below.refl w.heap.size w).alloc (Nat.le_refl _) (.cells #[.int .i64 gw, .int .i64 gh, .slice A n c] 46))
  cases hs : sizeB gw gh
  · have HE := Lib.hid (okG_size (cs := cs) hs)
    have HS := Lib.hid hs
    clear hs
    go_enter Tryz.func176, Tryz.ntmps176
    go_wp2_with fail
    refine (isGridSize_any _ _ _).mono ?_
    rintro e w' ⟨rfl, rfl⟩
    rw [HS.out]
    go_wp2_with fail
    go_ret
    exact ⟨Attr.rt_bool HE.out.symm, hb0.out⟩
  · obtain ⟨s1, s2, s3, s4, s5⟩ := of_sizeB hs
    obtain ⟨m1, m2⟩ := mul_bd s1 s2 s3 s4
    have HS := Lib.hid hs
    by_cases hln : (n : Int) = gw * gh
    · have HE := Lib.hid (okG_all (cs := cs) hs (by rw [HL.out]; exact hln))
      have hq : ((n : Int) == gw * gh) = true := by simpa using hln
      clear hs hln
      go_enter Tryz.func176, Tryz.ntmps176
      go_wp2_with fail
      refine (isGridSize_any _ _ _).mono ?_
      rintro e w' ⟨rfl, rfl⟩
      rw [HS.out]
      go_wp2_with fail
      refine (areCells_any A n c cs _ ((HR.out.below (Nat.le_refl _) hb0.out).more (by simp)) HL.out hn).mono ?_
      rintro e v1 ⟨rfl, hb1⟩
      rw [← HE.out]
      have HB1 := Lib.hid (hb0.out.trans (hb1.mono (by simp)))
      clear hb1
      go_wp2_with fail
      go_ret
      exact ⟨rfl, HB1.out⟩
    · have HE := Lib.hid (okG_len (gw := gw) (gh := gh) (cs := cs) (by rw [HL.out]; exact hln))
      have hq : ((n : Int) == gw * gh) = false := by simpa using hln
      clear hs hln
      go_enter Tryz.func176, Tryz.ntmps176
      go_wp2_with fail
      refine (isGridSize_any _ _ _).mono ?_
      rintro e w' ⟨rfl, rfl⟩
      rw [HS.out]
      go_wp2_with fail
      go_ret
      exact ⟨Attr.rt_bool HE.out.symm, hb0.out⟩

end Go.Proofs.YtgnpgkkjcloghaaGreatDoor.Gr
namespace Go.Proofs.YtgnpgkkjcloghaaGreatDoor.Sc
open Go.RowKit Go.Proofs.YtgnpgkkjcloghaaGreatDoor.Bytes Go.Proofs.YtgnpgkkjcloghaaGreatDoor.Rows_ Go.Proofs.YtgnpgkkjcloghaaGreatDoor.RowK Go.Proofs.YtgnpgkkjcloghaaGreatDoor.Gr Go.Proofs.YtgnpgkkjcloghaaGreatDoor.DOk Go.Proofs.YtgnpgkkjcloghaaGreatDoor.Opq Go.Proofs.YtgnpgkkjcloghaaGreatDoor.Attr
set_option linter.unusedVariables false
def okT : Int → Int → List Int → Bool
  | _, _, [] => true
  | last, w, t :: l => decide (last < t ∧ t < w) && okT t w l
def okRow (cs : List CellD) : Bool := decide (1 ≤ cs.length ∧ cs.length ≤ 120) && cs.all okC
def C1 (d : ScrD) : Prop := okG d.mw d.mh d.M = true ∧ okG d.aw d.ah d.A = true ∧ d.mw = d.w ∧ d.mh = d.h ∧ d.aw = d.w ∧ d.ah = d.h
def C3 (d : ScrD) : Prop := 0 ≤ d.x ∧ d.x < d.w ∧ 0 ≤ d.y ∧ d.y < d.h ∧ (d.wrap = true → d.x = d.w - 1) ∧ 0 ≤ d.sx ∧ d.sx < d.w ∧ 0 ≤ d.sy ∧ d.sy < d.h ∧ okA d.fg d.bg = true ∧ okA d.sfg d.sbg = true
def C5 (d : ScrD) : Prop := 0 ≤ d.top ∧ d.bot < d.h ∧ d.top ≤ d.bot ∧ (d.top = d.bot → d.h = 1) ∧ 0 ≤ d.lim ∧ d.lim ≤ 100 ∧ (d.rows.length : Int) ≤ d.lim
def OkP (d : ScrD) : Prop := C1 d ∧ C3 d ∧ C5 d ∧ okT (-1) d.w d.tabs = true ∧ d.rows.all okRow = true
noncomputable def okD (d : ScrD) : Bool := @decide (OkP d) (Classical.propDecidable _)
theorem okD_iff {d : ScrD} : okD d = true ↔ OkP d := by unfold okD; exact @decide_eq_true_iff _ (Classical.propDecidable _)
theorem okD_f {d : ScrD} (h : ¬ OkP d) : okD d = false := by
  cases h' : okD d
  · rfl
  · exact absurd (okD_iff.1 h') h
theorem okD_t {d : ScrD} (h : OkP d) : okD d = true := okD_iff.2 h
def lastOf : Int → List Int → Int
  | last, [] => last
  | _, t :: l => lastOf t l
theorem okT_app : ∀ (last w : Int) (l r : List Int), okT last w (l ++ r) = (okT last w l && okT (lastOf last l) w r)
  | last, w, [], r => by simp [okT, lastOf]
  | last, w, t :: l, r => by rw [List.cons_append, okT, okT_app, okT, lastOf, Bool.and_assoc]
theorem lastOf_snoc : ∀ (last : Int) (l : List Int) (t : Int), lastOf last (l ++ [t]) = t
  | _, [], t => rfl
  | _, x :: l, t => lastOf_snoc x l t
theorem okT_next {w : Int} {zs : List Int} {k : Nat} (hk : k < zs.length) (h : okT (-1) w (zs.take k) = true) (h1 : lastOf (-1) (zs.take k) < zs[k]) (h2 : zs[k] < w) : okT (-1) w (zs.take (k + 1)) = true := by
  rw [List.take_succ_eq_append_getElem hk, okT_app, h, Bool.true_and]
  simp [okT, h1, h2]
theorem okT_no {w : Int} {zs : List Int} {k : Nat} (hk : k < zs.length) (h1 : ¬ (lastOf (-1) (zs.take k) < zs[k] ∧ zs[k] < w)) : okT (-1) w zs = false := by
  have e : zs = zs.take k ++ zs[k] :: zs.drop (k + 1) := by rw [List.getElem_cons_drop, List.take_append_drop]
  rw [e, okT_app, okT]
  rw [decide_eq_false h1]; simp
theorem last_succ {zs : List Int} {j : Nat} (hj : j < zs.length) : lastOf (-1) (zs.take (j + 1)) = zs[j] := by rw [List.take_succ_eq_append_getElem hj, lastOf_snoc]
end Go.Proofs.YtgnpgkkjcloghaaGreatDoor.Sc
namespace Go.Proofs.YtgnpgkkjcloghaaGreatDoor.Gr
open Go.RowKit Go.Proofs.YtgnpgkkjcloghaaGreatDoor.Bytes Go.Proofs.YtgnpgkkjcloghaaGreatDoor.Rows_ Go.Proofs.YtgnpgkkjcloghaaGreatDoor.RowK
set_option linter.unusedVariables false
def inB (gw gh x y : Int) : Bool := decide (0 ≤ x ∧ x < gw ∧ 0 ≤ y ∧ y < gh)
theorem of_okG {gw gh : Int} {cs : List CellD} (h : okG gw gh cs = true) : (1 ≤ gw ∧ gw ≤ 120 ∧ 1 ≤ gh ∧ gh ≤ 120 ∧ gw * gh ≤ 4000) ∧ (cs.length : Int) = gw * gh ∧ cs.all okC = true := by
  unfold okG at h; simp only [Bool.and_eq_true, decide_eq_true_eq] at h
  exact ⟨of_sizeB h.1, h.2.1, h.2.2⟩
theorem inB_t {gw gh x y : Int} (h : inB gw gh x y = true) : 0 ≤ x ∧ x < gw ∧ 0 ≤ y ∧ y < gh := of_decide_eq_true h
theorem inB_f {gw gh x y : Int} (h : ¬ (0 ≤ x ∧ x < gw ∧ 0 ≤ y ∧ y < gh)) : inB gw gh x y = false := decide_eq_false h
set_option maxRecDepth 100000 in
set_option maxHeartbeats 3200000 in
theorem hasCell_any (gw gh : Int) (A : Option Addr) (n c : Nat) (x y : Int) (w : World) :
    Calls Tryz.prog 157 #[.agg #[.int .i64 gw, .int .i64 gh, .slice A n c], .int .i64 x, .int .i64 y] w fun e w' => e = .returned (.bool (inB gw gh x y)) ∧ Below w.heap.size w w' := by
  have hb0 := Lib.hid ((Below.refl w.heap.size w).alloc (Nat.le_refl _) (.cells #[.int .i64 gw, .int .i64 gh, .slice A n c] 46))
  have HE := Lib.hid (show inB gw gh x y = (decide (0 ≤ x) && (decide (x < gw) && (decide (0 ≤ y) && decide (y < gh)))) by unfold inB; rw [Bool.eq_iff_iff]; simp)
  by_cases h1 : 0 ≤ x
  · by_cases h2 : x < gw
    · by_cases h3 : 0 ≤ y
      · by_cases h4 : y < gh
        · have HF := Lib.hid (show (decide (y < gh)) = inB gw gh x y by rw [HE.out]; simp [h1, h2, h3])
          go_enter Tryz.func157, Tryz.ntmps157
          go_wp2_with fail
          go_ret
          exact ⟨Attr.rt_bool (by rw [← HF.out]; simp [h4]), hb0.out⟩
        · have HF := Lib.hid (inB_f (gw := gw) (gh := gh) (x := x) (y := y) (by omega)).symm
          go_enter Tryz.func157, Tryz.ntmps157
          go_wp2_with fail
          go_ret
          exact ⟨Attr.rt_bool HF.out, hb0.out⟩
      · have HF := Lib.hid (inB_f (gw := gw) (gh := gh) (x := x) (y := y) (by omega)).symm
        go_enter Tryz.func157, Tryz.ntmps157
        go_wp2_with fail
        go_ret
        exact ⟨Attr.rt_bool HF.out, hb0.out⟩
    · have HF := Lib.hid (inB_f (gw := gw) (gh := gh) (x := x) (y := y) (by omega)).symm
      go_enter Tryz.func157, Tryz.ntmps157
      go_wp2_with fail
      go_ret
      exact ⟨Attr.rt_bool HF.out, hb0.out⟩
  · have HF := Lib.hid (inB_f (gw := gw) (gh := gh) (x := x) (y := y) (by omega)).symm
    go_enter Tryz.func157, Tryz.ntmps157
    go_wp2_with fail
    go_ret
    exact ⟨Attr.rt_bool HF.out, hb0.out⟩

end Go.Proofs.YtgnpgkkjcloghaaGreatDoor.Gr
namespace Go.Proofs.YtgnpgkkjcloghaaGreatDoor.Sc
open Go.RowKit Go.Proofs.YtgnpgkkjcloghaaGreatDoor.Bytes Go.Proofs.YtgnpgkkjcloghaaGreatDoor.Rows_ Go.Proofs.YtgnpgkkjcloghaaGreatDoor.RowK Go.Proofs.YtgnpgkkjcloghaaGreatDoor.Gr Go.Proofs.YtgnpgkkjcloghaaGreatDoor.DOk Go.Proofs.YtgnpgkkjcloghaaGreatDoor.Opq Go.Proofs.YtgnpgkkjcloghaaGreatDoor.Attr
set_option linter.unusedVariables false
end Go.Proofs.YtgnpgkkjcloghaaGreatDoor.Sc
namespace Go.Proofs.YtgnpgkkjcloghaaGreatDoor.Sc
open Go.RowKit Go.Proofs.YtgnpgkkjcloghaaGreatDoor.Bytes Go.Proofs.YtgnpgkkjcloghaaGreatDoor.Rows_ Go.Proofs.YtgnpgkkjcloghaaGreatDoor.RowK Go.Proofs.YtgnpgkkjcloghaaGreatDoor.Gr Go.Proofs.YtgnpgkkjcloghaaGreatDoor.DOk Go.Proofs.YtgnpgkkjcloghaaGreatDoor.Opq Go.Proofs.YtgnpgkkjcloghaaGreatDoor.Attr
set_option linter.unusedVariables false
attribute [local go_sem] scr_at0 scr_at1 scr_at2 scr_at3 scr_at4 scr_at5 scr_at6 scr_at7 scr_at8 scr_at9 scr_at10 scr_at11 scr_at12 scr_at13 scr_at14 scr_at15 scr_at16 scr_at17 scr_at18 scr_at19 scr_at20 scr_at21 scr_at22 scr_at23 scr_at24 scr_at25 scr_at26 scr_at27 scr_at28 scr_at29 scr_at30
attribute [local go_sem] Chop.at_same Chop.at_ne Chop.getD_same Chop.getD_ne
theorem or_true {F t : Prop} (h : F) : true = true ↔ F ∨ t := ⟨fun _ => .inl h, fun _ => rfl⟩
end Go.Proofs.YtgnpgkkjcloghaaGreatDoor.Sc
namespace Go.Proofs.YtgnpgkkjcloghaaGreatDoor.Sc
open Go.RowKit Go.Proofs.YtgnpgkkjcloghaaGreatDoor.Bytes Go.Proofs.YtgnpgkkjcloghaaGreatDoor.Rows_ Go.Proofs.YtgnpgkkjcloghaaGreatDoor.RowK Go.Proofs.YtgnpgkkjcloghaaGreatDoor.Gr Go.Proofs.YtgnpgkkjcloghaaGreatDoor.DOk Go.Proofs.YtgnpgkkjcloghaaGreatDoor.Opq
set_option linter.unusedVariables false
def okL (lim : Int) : Bool := decide (0 ≤ lim ∧ lim ≤ 100)
theorem isLimit_any (n : Int) (w : World) : Calls Tryz.prog 57 #[.int .i64 n] w fun e w' => e = .returned (.bool (okL n)) ∧ w = w' := by
  by_cases h1 : 0 ≤ n
  · have HE := Lib.hid (show okL n = decide (n ≤ 100) by unfold okL; simp [h1])
    go_enter Tryz.func57, Tryz.ntmps57
    go_wp2_with fail
    go_ret
    exact ⟨ret_bool HE.out.symm, rfl⟩
  · have HE := Lib.hid (show okL n = false by unfold okL; simp [h1])
    go_enter Tryz.func57, Tryz.ntmps57
    go_wp2_with fail
    go_ret
    exact ⟨ret_bool HE.out.symm, rfl⟩
end Go.Proofs.YtgnpgkkjcloghaaGreatDoor.Sc
