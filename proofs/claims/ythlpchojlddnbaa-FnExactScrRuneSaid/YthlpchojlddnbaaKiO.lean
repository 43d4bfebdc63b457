/- Words and lemmas, merged (once: ScRow, Chop, ScOk) -/
import Derived.Test.YthlpchojlddnbaaChopK
import Derived.Test.YthlpchojlddnbaaScOkW
import Derived.Test.YthlpchojlddnbaaRows
import Derived.WalkKit
import Derived.Orders
import Derived.Test.YthlpchojlddnbaaScSz
import Derived.Test.YthlpchojlddnbaaKiEh
import Derived.Deep.Cut
import Derived.Deep.CutRange
import Derived.Deep.DeepCutAuto
import Derived.Outline
import Derived.Test.YthlpchojlddnbaaGrB
import Derived.Test.YthlpchojlddnbaaGrOk
namespace Go.Proofs.Ythlpchojlddnbaa.Sc
open Go.RowKit Go.Proofs.Ythlpchojlddnbaa.Bytes Go.Proofs.Ythlpchojlddnbaa.Rows_ Go.Proofs.Ythlpchojlddnbaa.RowK Go.Proofs.Ythlpchojlddnbaa.Gr Go.Proofs.Ythlpchojlddnbaa.DOk Go.Proofs.Ythlpchojlddnbaa.Opq Go.Proofs.Ythlpchojlddnbaa.Attr
set_option linter.unusedVariables false
theorem okRow_no {cs : List CellD} (h : cs.all okC = false) : okRow cs = false := by unfold okRow; rw [h, Bool.and_false]
theorem okRow_len {cs : List CellD} {n : Nat} (h : cs.all okC = true) (hl : cs.length = n) : okRow cs = decide (1 ≤ n ∧ n ≤ 120) := by unfold okRow; rw [h, hl, Bool.and_true]
set_option maxRecDepth 100000 in
set_option maxHeartbeats 3200000 in
theorem l09Row_any (A : Option Addr) (n c : Nat) (cs : List CellD) (w : World) (hr : RdC w w.heap.size A cs) (hl : cs.length = n) (hn : n ≤ 1099511627776) :
    Calls Try.prog 99 #[.agg #[.slice A n c]] w fun e w' => e = .returned (.bool (okRow cs)) ∧ Below w.heap.size w w' := by
  have HR := Lib.hid hr
  have HL := Lib.hid hl
  clear hr hl
  have hb0 := Lib.hid ((Below.refl w.heap.size w).alloc (Nat.le_refl _) (.cells #[.slice A n c] 115))
  have B0 := Lib.hid (RowB.new w #[.slice A n c] 115)
  go_enter Try.func99, Try.ntmps99
  go_wp2_with fail
  go_loopw [8] (fun i wr => ∃ k : Nat, k ≤ n ∧ i = .int .i64 k ∧ (cs.take k).all okC = true ∧ Below w.heap.size w wr ∧ RowB wr w.heap.size #[.slice A n c]) (fun i _ => n - (intOf i).toNat)
  case atStart => exact ⟨0, Nat.zero_le _, rfl, by simp, hb0.out, B0.out⟩
  case round =>
    obtain ⟨k, hk, rfl, ha, hb, hB0⟩ := hrel
    have hz : w.heap.size ≤ wr.heap.size := hb.size
    have HA := Lib.hid ha
    have HB0 := Lib.hid hB0
    have hzs : w.heap.size < wr.heap.size := hB0.lt
    clear ha hB0
    by_cases hlt : k < n
    · have hlf : k < cs.length := by rw [HL.out]; exact hlt
      obtain ⟨b, o, rfl, hB, hc0, hc1, hc2, hc3, hc4, hc5⟩ := (HR.out.below (Nat.le_refl _) hb).at_ hlf
      have HB := Lib.hid hb
      clear hb
      have HNX := Lib.hid (fun h => all_next hlf HA.out h)
      have HNO := Lib.hid (fun h => all_no hlf h)
      have HOK := Lib.hid (show okC cs[k] = (Rune.showB cs[k].r && Attr.okA cs[k].fg cs[k].bg) from rfl)
      generalize okC cs[k] = ok at *
      generalize cs[k].r = x0 at *
      generalize cs[k].fg = x1 at *
      generalize cs[k].bg = x2 at *
      generalize cs[k].b = x3 at *
      generalize cs[k].u = x4 at *
      generalize cs[k].t = x5 at *
      go_wp2_with fail
      refine (spec_CellOk_any x0 x1 x2 x3 x4 x5 _).mono ?_
      rintro e v1 ⟨rfl, hb1⟩
      have hst := (Below.refl wr.heap.size wr).alloc (Nat.le_refl _) _ |>.trans (hb1.mono (by simp))
      have HB1 := Lib.hid (HB.out.trans (hst.mono hz))
      have HB2 := Lib.hid (HB0.out.below hst hzs)
      clear hb1 hst
      have HOK' : (Rune.showB x0 && Attr.okA x1 x2) = ok := HOK.out.symm
      rw [HOK']
      clear HOK'
      cases hok : ok
      · subst hok
        go_wp2_with fail
        go_ret
        exact ⟨Attr.rt_bool (okRow_no (HNO.out (by trivial))).symm, HB1.out⟩
      · subst hok
        go_wp2_with fail
        exact ⟨⟨k + 1, by omega, by go_num, HNX.out (by trivial), HB1.out, HB2.out⟩, by simp [intOf]; omega⟩
    · obtain rfl : n = k := by omega
      have HE := Lib.hid (okRow_len (show cs.all okC = true by have := HA.out; rwa [List.take_of_length_le (by rw [HL.out]; exact Nat.le_refl _)] at this) HL.out)
      have HB := Lib.hid hb
      have hx : wr.cell? ⟨w.heap.size, 0, none⟩ = some (.slice A n c) := HB0.out.cell 0
      clear hb
      by_cases h1 : 1 ≤ n
      · by_cases h2 : n ≤ 120
        · have hd := Lib.hid (decide_eq_true (show 1 ≤ n ∧ n ≤ 120 from ⟨h1, h2⟩))
          have e1 : decide ((n : Int) ≤ 120) = true := decide_eq_true (by omega)
          go_wp2_with fail
          go_ret
          exact ⟨Attr.rt_bool (by rw [HE.out, hd.out]), HB.out⟩
        · have hd := Lib.hid (decide_eq_false (show ¬ (1 ≤ n ∧ n ≤ 120) from fun h => h2 h.2))
          have e1 : decide ((n : Int) ≤ 120) = false := decide_eq_false (by omega)
          go_wp2_with fail
          go_ret
          exact ⟨Attr.rt_bool (by rw [HE.out, hd.out]), HB.out⟩
      · have hd := Lib.hid (decide_eq_false (show ¬ (1 ≤ n ∧ n ≤ 120) from fun h => h1 h.1))
        obtain rfl : n = 0 := by omega
        go_wp2_with fail
        go_ret
        exact ⟨Attr.rt_bool (by rw [HE.out, hd.out]), HB.out⟩
end Go.Proofs.Ythlpchojlddnbaa.Sc
namespace Go.Proofs.Ythlpchojlddnbaa.Sc
open Go.RowKit Go.Proofs.Ythlpchojlddnbaa.Bytes Go.Proofs.Ythlpchojlddnbaa.Rows_ Go.Proofs.Ythlpchojlddnbaa.RowK Go.Proofs.Ythlpchojlddnbaa.Gr Go.Proofs.Ythlpchojlddnbaa.DOk Go.Proofs.Ythlpchojlddnbaa.Opq Go.Proofs.Ythlpchojlddnbaa.Attr
set_option linter.unusedVariables false
attribute [local go_sem] scr_at0 scr_at1 scr_at2 scr_at3 scr_at4 scr_at5 scr_at6 scr_at7 scr_at8 scr_at9 scr_at10 scr_at11 scr_at12 scr_at13 scr_at14 scr_at15 scr_at16 scr_at17 scr_at18 scr_at19 scr_at20 scr_at21 scr_at22 scr_at23 scr_at24 scr_at25 scr_at26 scr_at27 scr_at28 scr_at29 scr_at30
attribute [local go_sem] Chop.at_same Chop.at_ne Chop.getD_same Chop.getD_ne
theorem uncons {L : List Value} {n : Nat} (h : L.length = n + 1) : ∃ a l, L = a :: l ∧ l.length = n := by
  cases L with
  | nil => simp at h
  | cons a l => exact ⟨a, l, rfl, by simpa using h⟩
theorem rows_no {s : ScrS} {k : Nat} (hlf : k < s.rows.length) (h : okRow s.rows[k].cs = false) : okD s.data = false := okD_f (fun h' => by
  have h2 : (s.rows.map (·.cs)).all okRow = true := h'.2.2.2.2
  have := List.all_eq_true.1 h2 s.rows[k].cs (List.mem_map.2 ⟨_, List.getElem_mem hlf, rfl⟩)
  rw [h] at this; cases this)
theorem rows_next {rs : List SlC} {k : Nat} (hlf : k < rs.length) (ha : (rs.take k).all (fun r => okRow r.cs) = true) (h : okRow rs[k].cs = true) : (rs.take (k + 1)).all (fun r => okRow r.cs) = true := by
  rw [List.take_succ_eq_append_getElem hlf, List.all_append, ha]; simp [h]
theorem rows_all {s : ScrS} {n : Nat} (hn : n = s.rows.length) (ha : (s.rows.take n).all (fun r => okRow r.cs) = true) : s.data.rows.all okRow = true := by
  rw [hn, List.take_of_length_le (Nat.le_refl _)] at ha
  show (s.rows.map (·.cs)).all okRow = true
  rw [List.all_map]; exact ha
def No (P : Prop) : Prop := ¬ P
def Imp (b c : Bool) (P : Prop) : Prop := b = c → P
theorem Imp.go {b : Bool} {P : Prop} (h : Imp b b P) : P := h rfl
theorem or_true {F t : Prop} (h : F) : true = true ↔ F ∨ t := ⟨fun _ => .inl h, fun _ => rfl⟩
theorem or_false {v : Bool} {F t : Prop} (h : No F) (m : v = true ↔ t) : v = true ↔ F ∨ t := ⟨fun h' => .inr (m.1 h'), fun h' => h'.elim (fun f => absurd f h) m.2⟩
set_option maxRecDepth 100000 in
set_option maxHeartbeats 16000000 in
theorem spec_ScrOk_any (s : ScrS) (w : World) (hr : RdS w w.heap.size s) (hn : szS s ≤ 1048576) : Calls Try.prog 58 #[.agg (scrA s)] w fun e w' => e = .returned (.bool (okD s.data)) ∧ Below w.heap.size w w' := by
  have hb0 := Lib.hid ((Below.refl w.heap.size w).alloc (Nat.le_refl _) (.cells (scrA s) 53))
  have BA0 := Lib.hid (RowB.new w (scrA s) 53)
  have HM := Lib.hid (hr.M.more (Nat.le_refl _))
  have HA := Lib.hid (hr.A.more (Nat.le_refl _))
  have HG1 := Lib.hid (fun W (h : Below w.heap.size w W) => spec_GridOk_any s.mw s.mh s.M.A s.M.cs.length s.M.c s.M.cs W ((HM.out.below (Nat.le_refl _) h).more h.size) rfl (by unfold szS at hn; omega))
  have HG2 := Lib.hid (fun W (h : Below w.heap.size w W) => spec_GridOk_any s.aw s.ah s.A.A s.A.cs.length s.A.c s.A.cs W ((HA.out.below (Nat.le_refl _) h).more h.size) rfl (by unfold szS at hn; omega))
  have HR := Lib.hid hr
  have HN := Lib.hid hn
  clear hr hn
  go_enter Try.func58, Try.ntmps58
  go_upto_region 1 with fail
  go_cut [48] (fun c wx => Tst (¬ C1 s.data) c ∧ RowB wx w.heap.size (scrA s) ∧ Below w.heap.size w wx)
  case first =>
    cases hg1 : okG s.mw s.mh s.M.cs <;> cases hg2 : okG s.aw s.ah s.A.cs <;> have K1 := Lib.hid hg1 <;> have K2 := Lib.hid hg2 <;> clear hg1 hg2
    all_goals
      go_wp2_with (first
        | (go_at_call 36; (with_reducible refine (HG1.out _ hb0.out).mono ?_); rintro e v1 ⟨rfl, hb1⟩; rw [K1.out]; have B1 := Lib.hid (BA0.out.below hb1 BA0.out.lt); have H1 := Lib.hid (hb0.out.trans (hb1.mono hb0.out.size)); have hx1 := B1.out.cell; have z1 : w.heap.size < v1.heap.size := B1.out.lt; clear hb1)
        | (go_at_call 36; (with_reducible refine (HG2.out _ H1.out).mono ?_); rintro e v2 ⟨rfl, hb2⟩; rw [K2.out]; have B2 := Lib.hid (B1.out.below hb2 B1.out.lt); have H2 := Lib.hid (H1.out.trans (hb2.mono H1.out.size)); have hx2 := B2.out.cell; have z2 : w.heap.size < v2.heap.size := B2.out.lt; clear hb2))
      all_goals
        go_meet
        case rel =>
          refine ⟨Tst.mk _ ?_, by first | exact B2.out | exact B1.out, by first | exact H2.out | exact H1.out⟩
          have k1 := K1.out
          have k2 := K2.out
          unfold C1 ScrS.data
          simp only []
          clear K1 K2 HM HA HG1 HG2 HR HN BA0 hb0
          try clear hx1
          try clear hx2
          simp_all
  case rest =>
    obtain ⟨⟨c1, rfl, HC1⟩, hB1, hb1⟩ := hcut
    have B1 := Lib.hid hB1
    have H1 := Lib.hid hb1
    have hx1 := hB1.cell
    have z1 : w.heap.size < wc.heap.size := hB1.lt
    clear hB1 hb1 BA0 hb0 HG1 HG2
    cases hc1 : c1
    case true =>
      subst hc1
      have HF := Lib.hid (okD_f (fun h : OkP s.data => HC1.out.1 rfl h.1))
      go_wp2_with fail
      go_ret
      exact ⟨Attr.rt_bool HF.out.symm, H1.out⟩
    subst hc1
    have hP1 : C1 s.data := Classical.byContradiction fun h => by have := HC1.out.2 h; cases this
    have HP1 := Lib.hid hP1
    have hsz := (of_okG hP1.1).1
    have hw1 : 1 ≤ s.w := by have := hP1.2.2.1; unfold ScrS.data at this hsz; simp only [] at this hsz; omega
    have hw2 : s.w ≤ 120 := by have := hP1.2.2.1; unfold ScrS.data at this hsz; simp only [] at this hsz; omega
    clear hP1 HC1 hsz
    obtain ⟨wd, rfl⟩ : ∃ v : World, v = wc := ⟨_, rfl⟩
    have HQ1 := Lib.hid (fun W => spec_AttrOk_any s.fg s.bg s.b s.u s.t W)
    have HQ2 := Lib.hid (fun W => spec_AttrOk_any s.sfg s.sbg s.sb s.su s.st W)
    generalize hq1 : okA s.fg s.bg = q1 at *
    generalize hq2 : okA s.sfg s.sbg = q2 at *
    have HK1 := Lib.hid hq1
    have HK2 := Lib.hid hq2
    clear hq1 hq2
    go_upto_region 3 with fail
    refine wp_region_lit ?_
    refine Chop.forget (fun T hT => ?_)
    have hsz : T.size = 208 := by rw [hT]; rfl
    have f1 : T[1]? = some (.pointer (some ⟨w.heap.size, 0, none⟩)) := by rw [hT]; rfl
    clear hT
    have g1 := Chop.getD_of f1
    have e1 := Chop.elem_of f1 (by rw [hsz]; decide)
    refine Chop.chop_rel 4 (fun a w' => ∃ (T : Array Value) (b : Bool), a = ⟨T, []⟩ ∧ wd = w' ∧ T.size = 208 ∧ T[1]? = some (.pointer (some ⟨w.heap.size, 0, none⟩)) ∧ T[52]? = some (.bool b) ∧ Hid (b = true ↔ s.x < 0)) (fun Q0 hQ0 => ?_) ?_
    · have HQ0 := Lib.hid hQ0
      clear hQ0
      change wpList _ _ _ (_ :: _ :: _ :: _ :: []) _ _
      go_wp2_with fail
      all_goals refine HQ0.out _ _ ⟨_, _, rfl, rfl, by simp [hsz], by simp [f1], Chop.at_same _ _ _ (by simp [hsz]), Lib.hid (decide_eq_true_iff)⟩
    rintro a w' ⟨T, b, rfl, rfl, hsz, f1, fb, HB⟩
    have gb := Chop.getD_of fb
    have g1 := Chop.getD_of f1
    have e1 := Chop.elem_of f1 (by rw [hsz]; decide)
    have eb := Chop.elem_of fb (by rw [hsz]; decide)
    refine Chop.chop_rel 7 (fun a w' => ∃ (T : Array Value) (b : Bool), a = ⟨T, []⟩ ∧ wd = w' ∧ T.size = 208 ∧ T[1]? = some (.pointer (some ⟨w.heap.size, 0, none⟩)) ∧ T[59]? = some (.bool b) ∧ Hid (b = true ↔ (s.x < 0) ∨ s.w ≤ s.x)) (fun Q0 hQ0 => ?_) ?_
    · have HQ0 := Lib.hid hQ0
      clear hQ0
      change wpList _ _ _ (_ :: _ :: _ :: _ :: _ :: _ :: _ :: []) _ _
      have HBt := Lib.hid (show Imp b true (s.x < 0) from HB.out.1)
      have HBn := Lib.hid (show Imp b false (No (s.x < 0)) from fun hb h => by rw [HB.out.2 h] at hb; cases hb)
      clear HB
      cases b
      · go_wp2_with fail
        all_goals refine HQ0.out _ _ ⟨_, _, rfl, rfl, by simp [hsz], by simp [f1], Chop.at_same _ _ _ (by simp [hsz]), Lib.hid (or_false HBn.out.go (decide_eq_true_iff))⟩
      · go_wp2_with fail
        all_goals refine HQ0.out _ _ ⟨_, _, rfl, rfl, by simp [hsz], by simp [f1], Chop.at_same _ _ _ (by simp [hsz]), Lib.hid (or_true HBt.out.go)⟩
    rintro a w' ⟨T, b, rfl, rfl, hsz, f1, fb, HB⟩
    have gb := Chop.getD_of fb
    have g1 := Chop.getD_of f1
    have e1 := Chop.elem_of f1 (by rw [hsz]; decide)
    have eb := Chop.elem_of fb (by rw [hsz]; decide)
    refine Chop.chop_rel 5 (fun a w' => ∃ (T : Array Value) (b : Bool), a = ⟨T, []⟩ ∧ wd = w' ∧ T.size = 208 ∧ T[1]? = some (.pointer (some ⟨w.heap.size, 0, none⟩)) ∧ T[64]? = some (.bool b) ∧ Hid (b = true ↔ ((s.x < 0) ∨ s.w ≤ s.x) ∨ s.y < 0)) (fun Q0 hQ0 => ?_) ?_
    · have HQ0 := Lib.hid hQ0
      clear hQ0
      change wpList _ _ _ (_ :: _ :: _ :: _ :: _ :: []) _ _
      have HBt := Lib.hid (show Imp b true ((s.x < 0) ∨ s.w ≤ s.x) from HB.out.1)
      have HBn := Lib.hid (show Imp b false (No ((s.x < 0) ∨ s.w ≤ s.x)) from fun hb h => by rw [HB.out.2 h] at hb; cases hb)
      clear HB
      cases b
      · go_wp2_with fail
        all_goals refine HQ0.out _ _ ⟨_, _, rfl, rfl, by simp [hsz], by simp [f1], Chop.at_same _ _ _ (by simp [hsz]), Lib.hid (or_false HBn.out.go (decide_eq_true_iff))⟩
      · go_wp2_with fail
        all_goals refine HQ0.out _ _ ⟨_, _, rfl, rfl, by simp [hsz], by simp [f1], Chop.at_same _ _ _ (by simp [hsz]), Lib.hid (or_true HBt.out.go)⟩
    rintro a w' ⟨T, b, rfl, rfl, hsz, f1, fb, HB⟩
    have gb := Chop.getD_of fb
    have g1 := Chop.getD_of f1
    have e1 := Chop.elem_of f1 (by rw [hsz]; decide)
    have eb := Chop.elem_of fb (by rw [hsz]; decide)
    refine Chop.chop_rel 7 (fun a w' => ∃ (T : Array Value) (b : Bool), a = ⟨T, []⟩ ∧ wd = w' ∧ T.size = 208 ∧ T[1]? = some (.pointer (some ⟨w.heap.size, 0, none⟩)) ∧ T[71]? = some (.bool b) ∧ Hid (b = true ↔ (((s.x < 0) ∨ s.w ≤ s.x) ∨ s.y < 0) ∨ s.h ≤ s.y)) (fun Q0 hQ0 => ?_) ?_
    · have HQ0 := Lib.hid hQ0
      clear hQ0
      change wpList _ _ _ (_ :: _ :: _ :: _ :: _ :: _ :: _ :: []) _ _
      have HBt := Lib.hid (show Imp b true (((s.x < 0) ∨ s.w ≤ s.x) ∨ s.y < 0) from HB.out.1)
      have HBn := Lib.hid (show Imp b false (No (((s.x < 0) ∨ s.w ≤ s.x) ∨ s.y < 0)) from fun hb h => by rw [HB.out.2 h] at hb; cases hb)
      clear HB
      cases b
      · go_wp2_with fail
        all_goals refine HQ0.out _ _ ⟨_, _, rfl, rfl, by simp [hsz], by simp [f1], Chop.at_same _ _ _ (by simp [hsz]), Lib.hid (or_false HBn.out.go (decide_eq_true_iff))⟩
      · go_wp2_with fail
        all_goals refine HQ0.out _ _ ⟨_, _, rfl, rfl, by simp [hsz], by simp [f1], Chop.at_same _ _ _ (by simp [hsz]), Lib.hid (or_true HBt.out.go)⟩
    rintro a w' ⟨T, b, rfl, rfl, hsz, f1, fb, HB⟩
    have gb := Chop.getD_of fb
    have g1 := Chop.getD_of f1
    have e1 := Chop.elem_of f1 (by rw [hsz]; decide)
    have eb := Chop.elem_of fb (by rw [hsz]; decide)
    refine Chop.chop_rel 12 (fun a w' => ∃ (T : Array Value) (b : Bool), a = ⟨T, []⟩ ∧ wd = w' ∧ T.size = 208 ∧ T[1]? = some (.pointer (some ⟨w.heap.size, 0, none⟩)) ∧ T[83]? = some (.bool b) ∧ Hid (b = true ↔ ((((s.x < 0) ∨ s.w ≤ s.x) ∨ s.y < 0) ∨ s.h ≤ s.y) ∨ (s.wrap = true ∧ ¬ s.x = s.w - 1))) (fun Q0 hQ0 => ?_) ?_
    · have HQ0 := Lib.hid hQ0
      clear hQ0
      change wpList _ _ _ (_ :: _ :: _ :: _ :: _ :: _ :: _ :: _ :: _ :: _ :: _ :: _ :: []) _ _
      have HBt := Lib.hid (show Imp b true ((((s.x < 0) ∨ s.w ≤ s.x) ∨ s.y < 0) ∨ s.h ≤ s.y) from HB.out.1)
      have HBn := Lib.hid (show Imp b false (No ((((s.x < 0) ∨ s.w ≤ s.x) ∨ s.y < 0) ∨ s.h ≤ s.y)) from fun hb h => by rw [HB.out.2 h] at hb; cases hb)
      clear HB
      cases b
      · cases hwr : s.wrap
        · go_wp2_with fail
          all_goals refine HQ0.out _ _ ⟨_, _, rfl, rfl, by simp [hsz], by simp [f1], Chop.at_same _ _ _ (by simp [hsz]), Lib.hid (or_false HBn.out.go (by simp [hwr]))⟩
        · go_wp2_with fail
          all_goals refine HQ0.out _ _ ⟨_, _, rfl, rfl, by simp [hsz], by simp [f1], Chop.at_same _ _ _ (by simp [hsz]), Lib.hid (or_false HBn.out.go (by simp [hwr]))⟩
      · go_wp2_with fail
        all_goals refine HQ0.out _ _ ⟨_, _, rfl, rfl, by simp [hsz], by simp [f1], Chop.at_same _ _ _ (by simp [hsz]), Lib.hid (or_true HBt.out.go)⟩
    rintro a w' ⟨T, b, rfl, rfl, hsz, f1, fb, HB⟩
    have gb := Chop.getD_of fb
    have g1 := Chop.getD_of f1
    have e1 := Chop.elem_of f1 (by rw [hsz]; decide)
    have eb := Chop.elem_of fb (by rw [hsz]; decide)
    refine Chop.chop_rel 5 (fun a w' => ∃ (T : Array Value) (b : Bool), a = ⟨T, []⟩ ∧ wd = w' ∧ T.size = 208 ∧ T[1]? = some (.pointer (some ⟨w.heap.size, 0, none⟩)) ∧ T[88]? = some (.bool b) ∧ Hid (b = true ↔ (((((s.x < 0) ∨ s.w ≤ s.x) ∨ s.y < 0) ∨ s.h ≤ s.y) ∨ (s.wrap = true ∧ ¬ s.x = s.w - 1)) ∨ s.sx < 0)) (fun Q0 hQ0 => ?_) ?_
    · have HQ0 := Lib.hid hQ0
      clear hQ0
      change wpList _ _ _ (_ :: _ :: _ :: _ :: _ :: []) _ _
      have HBt := Lib.hid (show Imp b true (((((s.x < 0) ∨ s.w ≤ s.x) ∨ s.y < 0) ∨ s.h ≤ s.y) ∨ (s.wrap = true ∧ ¬ s.x = s.w - 1)) from HB.out.1)
      have HBn := Lib.hid (show Imp b false (No (((((s.x < 0) ∨ s.w ≤ s.x) ∨ s.y < 0) ∨ s.h ≤ s.y) ∨ (s.wrap = true ∧ ¬ s.x = s.w - 1))) from fun hb h => by rw [HB.out.2 h] at hb; cases hb)
      clear HB
      cases b
      · go_wp2_with fail
        all_goals refine HQ0.out _ _ ⟨_, _, rfl, rfl, by simp [hsz], by simp [f1], Chop.at_same _ _ _ (by simp [hsz]), Lib.hid (or_false HBn.out.go (decide_eq_true_iff))⟩
      · go_wp2_with fail
        all_goals refine HQ0.out _ _ ⟨_, _, rfl, rfl, by simp [hsz], by simp [f1], Chop.at_same _ _ _ (by simp [hsz]), Lib.hid (or_true HBt.out.go)⟩
    rintro a w' ⟨T, b, rfl, rfl, hsz, f1, fb, HB⟩
    have gb := Chop.getD_of fb
    have g1 := Chop.getD_of f1
    have e1 := Chop.elem_of f1 (by rw [hsz]; decide)
    have eb := Chop.elem_of fb (by rw [hsz]; decide)
    refine Chop.chop_rel 7 (fun a w' => ∃ (T : Array Value) (b : Bool), a = ⟨T, []⟩ ∧ wd = w' ∧ T.size = 208 ∧ T[1]? = some (.pointer (some ⟨w.heap.size, 0, none⟩)) ∧ T[95]? = some (.bool b) ∧ Hid (b = true ↔ ((((((s.x < 0) ∨ s.w ≤ s.x) ∨ s.y < 0) ∨ s.h ≤ s.y) ∨ (s.wrap = true ∧ ¬ s.x = s.w - 1)) ∨ s.sx < 0) ∨ s.w ≤ s.sx)) (fun Q0 hQ0 => ?_) ?_
    · have HQ0 := Lib.hid hQ0
      clear hQ0
      change wpList _ _ _ (_ :: _ :: _ :: _ :: _ :: _ :: _ :: []) _ _
      have HBt := Lib.hid (show Imp b true ((((((s.x < 0) ∨ s.w ≤ s.x) ∨ s.y < 0) ∨ s.h ≤ s.y) ∨ (s.wrap = true ∧ ¬ s.x = s.w - 1)) ∨ s.sx < 0) from HB.out.1)
      have HBn := Lib.hid (show Imp b false (No ((((((s.x < 0) ∨ s.w ≤ s.x) ∨ s.y < 0) ∨ s.h ≤ s.y) ∨ (s.wrap = true ∧ ¬ s.x = s.w - 1)) ∨ s.sx < 0)) from fun hb h => by rw [HB.out.2 h] at hb; cases hb)
      clear HB
      cases b
      · go_wp2_with fail
        all_goals refine HQ0.out _ _ ⟨_, _, rfl, rfl, by simp [hsz], by simp [f1], Chop.at_same _ _ _ (by simp [hsz]), Lib.hid (or_false HBn.out.go (decide_eq_true_iff))⟩
      · go_wp2_with fail
        all_goals refine HQ0.out _ _ ⟨_, _, rfl, rfl, by simp [hsz], by simp [f1], Chop.at_same _ _ _ (by simp [hsz]), Lib.hid (or_true HBt.out.go)⟩
    rintro a w' ⟨T, b, rfl, rfl, hsz, f1, fb, HB⟩
    have gb := Chop.getD_of fb
    have g1 := Chop.getD_of f1
    have e1 := Chop.elem_of f1 (by rw [hsz]; decide)
    have eb := Chop.elem_of fb (by rw [hsz]; decide)
    refine Chop.chop_rel 5 (fun a w' => ∃ (T : Array Value) (b : Bool), a = ⟨T, []⟩ ∧ wd = w' ∧ T.size = 208 ∧ T[1]? = some (.pointer (some ⟨w.heap.size, 0, none⟩)) ∧ T[100]? = some (.bool b) ∧ Hid (b = true ↔ (((((((s.x < 0) ∨ s.w ≤ s.x) ∨ s.y < 0) ∨ s.h ≤ s.y) ∨ (s.wrap = true ∧ ¬ s.x = s.w - 1)) ∨ s.sx < 0) ∨ s.w ≤ s.sx) ∨ s.sy < 0)) (fun Q0 hQ0 => ?_) ?_
    · have HQ0 := Lib.hid hQ0
      clear hQ0
      change wpList _ _ _ (_ :: _ :: _ :: _ :: _ :: []) _ _
      have HBt := Lib.hid (show Imp b true (((((((s.x < 0) ∨ s.w ≤ s.x) ∨ s.y < 0) ∨ s.h ≤ s.y) ∨ (s.wrap = true ∧ ¬ s.x = s.w - 1)) ∨ s.sx < 0) ∨ s.w ≤ s.sx) from HB.out.1)
      have HBn := Lib.hid (show Imp b false (No (((((((s.x < 0) ∨ s.w ≤ s.x) ∨ s.y < 0) ∨ s.h ≤ s.y) ∨ (s.wrap = true ∧ ¬ s.x = s.w - 1)) ∨ s.sx < 0) ∨ s.w ≤ s.sx)) from fun hb h => by rw [HB.out.2 h] at hb; cases hb)
      clear HB
      cases b
      · go_wp2_with fail
        all_goals refine HQ0.out _ _ ⟨_, _, rfl, rfl, by simp [hsz], by simp [f1], Chop.at_same _ _ _ (by simp [hsz]), Lib.hid (or_false HBn.out.go (decide_eq_true_iff))⟩
      · go_wp2_with fail
        all_goals refine HQ0.out _ _ ⟨_, _, rfl, rfl, by simp [hsz], by simp [f1], Chop.at_same _ _ _ (by simp [hsz]), Lib.hid (or_true HBt.out.go)⟩
    rintro a w' ⟨T, b, rfl, rfl, hsz, f1, fb, HB⟩
    have gb := Chop.getD_of fb
    have g1 := Chop.getD_of f1
    have e1 := Chop.elem_of f1 (by rw [hsz]; decide)
    have eb := Chop.elem_of fb (by rw [hsz]; decide)
    refine Chop.chop_rel 7 (fun a w' => ∃ (T : Array Value) (b : Bool), a = ⟨T, []⟩ ∧ wd = w' ∧ T.size = 208 ∧ T[1]? = some (.pointer (some ⟨w.heap.size, 0, none⟩)) ∧ T[107]? = some (.bool b) ∧ Hid (b = true ↔ ((((((((s.x < 0) ∨ s.w ≤ s.x) ∨ s.y < 0) ∨ s.h ≤ s.y) ∨ (s.wrap = true ∧ ¬ s.x = s.w - 1)) ∨ s.sx < 0) ∨ s.w ≤ s.sx) ∨ s.sy < 0) ∨ s.h ≤ s.sy)) (fun Q0 hQ0 => ?_) ?_
    · have HQ0 := Lib.hid hQ0
      clear hQ0
      change wpList _ _ _ (_ :: _ :: _ :: _ :: _ :: _ :: _ :: []) _ _
      have HBt := Lib.hid (show Imp b true ((((((((s.x < 0) ∨ s.w ≤ s.x) ∨ s.y < 0) ∨ s.h ≤ s.y) ∨ (s.wrap = true ∧ ¬ s.x = s.w - 1)) ∨ s.sx < 0) ∨ s.w ≤ s.sx) ∨ s.sy < 0) from HB.out.1)
      have HBn := Lib.hid (show Imp b false (No ((((((((s.x < 0) ∨ s.w ≤ s.x) ∨ s.y < 0) ∨ s.h ≤ s.y) ∨ (s.wrap = true ∧ ¬ s.x = s.w - 1)) ∨ s.sx < 0) ∨ s.w ≤ s.sx) ∨ s.sy < 0)) from fun hb h => by rw [HB.out.2 h] at hb; cases hb)
      clear HB
      cases b
      · go_wp2_with fail
        all_goals refine HQ0.out _ _ ⟨_, _, rfl, rfl, by simp [hsz], by simp [f1], Chop.at_same _ _ _ (by simp [hsz]), Lib.hid (or_false HBn.out.go (decide_eq_true_iff))⟩
      · go_wp2_with fail
        all_goals refine HQ0.out _ _ ⟨_, _, rfl, rfl, by simp [hsz], by simp [f1], Chop.at_same _ _ _ (by simp [hsz]), Lib.hid (or_true HBt.out.go)⟩
    rintro a w' ⟨T, b, rfl, rfl, hsz, f1, fb, HB⟩
    have gb := Chop.getD_of fb
    have g1 := Chop.getD_of f1
    have e1 := Chop.elem_of f1 (by rw [hsz]; decide)
    have eb := Chop.elem_of fb (by rw [hsz]; decide)
    refine Chop.chop_rel 6 (fun a w' => ∃ (T : Array Value) (b : Bool), a = ⟨T, []⟩ ∧ T.size = 208 ∧ T[1]? = some (.pointer (some ⟨w.heap.size, 0, none⟩)) ∧ T[113]? = some (.bool b) ∧ Hid (b = true ↔ (((((((((s.x < 0) ∨ s.w ≤ s.x) ∨ s.y < 0) ∨ s.h ≤ s.y) ∨ (s.wrap = true ∧ ¬ s.x = s.w - 1)) ∨ s.sx < 0) ∨ s.w ≤ s.sx) ∨ s.sy < 0) ∨ s.h ≤ s.sy) ∨ q1 = false) ∧ RowB w' w.heap.size (scrA s) ∧ Below w.heap.size w w') (fun Q0 hQ0 => ?_) ?_
    · have HQ0 := Lib.hid hQ0
      clear hQ0
      change wpList _ _ _ (_ :: _ :: _ :: _ :: _ :: _ :: []) _ _
      have HBt := Lib.hid (show Imp b true (((((((((s.x < 0) ∨ s.w ≤ s.x) ∨ s.y < 0) ∨ s.h ≤ s.y) ∨ (s.wrap = true ∧ ¬ s.x = s.w - 1)) ∨ s.sx < 0) ∨ s.w ≤ s.sx) ∨ s.sy < 0) ∨ s.h ≤ s.sy) from HB.out.1)
      have HBn := Lib.hid (show Imp b false (No (((((((((s.x < 0) ∨ s.w ≤ s.x) ∨ s.y < 0) ∨ s.h ≤ s.y) ∨ (s.wrap = true ∧ ¬ s.x = s.w - 1)) ∨ s.sx < 0) ∨ s.w ≤ s.sx) ∨ s.sy < 0) ∨ s.h ≤ s.sy)) from fun hb h => by rw [HB.out.2 h] at hb; cases hb)
      clear HB
      cases b
      · go_wp2_with (go_at_call 89; (with_reducible refine (HQ1.out _).mono ?_); rintro e vn ⟨rfl, hbn⟩; have Bn := Lib.hid (B1.out.below hbn B1.out.lt); have Hn := Lib.hid (H1.out.trans (hbn.mono H1.out.size)); clear hbn)
        all_goals refine HQ0.out _ _ ⟨_, _, rfl, by simp [hsz], by simp [f1], Chop.at_same _ _ _ (by simp [hsz]), Lib.hid (or_false HBn.out.go (by cases q1 <;> simp)), by first | exact Bn.out | exact B1.out, by first | exact Hn.out | exact H1.out⟩
      · go_wp2_with fail
        all_goals refine HQ0.out _ _ ⟨_, _, rfl, by simp [hsz], by simp [f1], Chop.at_same _ _ _ (by simp [hsz]), Lib.hid (or_true HBt.out.go), by first | exact Bn.out | exact B1.out, by first | exact Hn.out | exact H1.out⟩
    rintro a w' ⟨T, b, rfl, hsz, f1, fb, HB, hB, hH⟩
    have B4 := Lib.hid hB
    have H4 := Lib.hid hH
    have hx4 := hB.cell
    have z4 : w.heap.size < w'.heap.size := hB.lt
    clear hB hH
    have gb := Chop.getD_of fb
    have g1 := Chop.getD_of f1
    have e1 := Chop.elem_of f1 (by rw [hsz]; decide)
    have eb := Chop.elem_of fb (by rw [hsz]; decide)
    refine Chop.chop_rel 5 (fun a w' => ∃ (T : Array Value) (b : Bool), a = ⟨T, []⟩ ∧ T.size = 208 ∧ T[1]? = some (.pointer (some ⟨w.heap.size, 0, none⟩)) ∧ T[118]? = some (.bool b) ∧ Hid (b = true ↔ ((((((((((s.x < 0) ∨ s.w ≤ s.x) ∨ s.y < 0) ∨ s.h ≤ s.y) ∨ (s.wrap = true ∧ ¬ s.x = s.w - 1)) ∨ s.sx < 0) ∨ s.w ≤ s.sx) ∨ s.sy < 0) ∨ s.h ≤ s.sy) ∨ q1 = false) ∨ q2 = false) ∧ RowB w' w.heap.size (scrA s) ∧ Below w.heap.size w w') (fun Q0 hQ0 => ?_) ?_
    · have HQ0 := Lib.hid hQ0
      clear hQ0
      change wpList _ _ _ (_ :: _ :: _ :: _ :: _ :: []) _ _
      have HBt := Lib.hid (show Imp b true ((((((((((s.x < 0) ∨ s.w ≤ s.x) ∨ s.y < 0) ∨ s.h ≤ s.y) ∨ (s.wrap = true ∧ ¬ s.x = s.w - 1)) ∨ s.sx < 0) ∨ s.w ≤ s.sx) ∨ s.sy < 0) ∨ s.h ≤ s.sy) ∨ q1 = false) from HB.out.1)
      have HBn := Lib.hid (show Imp b false (No ((((((((((s.x < 0) ∨ s.w ≤ s.x) ∨ s.y < 0) ∨ s.h ≤ s.y) ∨ (s.wrap = true ∧ ¬ s.x = s.w - 1)) ∨ s.sx < 0) ∨ s.w ≤ s.sx) ∨ s.sy < 0) ∨ s.h ≤ s.sy) ∨ q1 = false)) from fun hb h => by rw [HB.out.2 h] at hb; cases hb)
      clear HB
      cases b
      · go_wp2_with (go_at_call 89; (with_reducible refine (HQ2.out _).mono ?_); rintro e vn ⟨rfl, hbn⟩; have Bn := Lib.hid (B4.out.below hbn B4.out.lt); have Hn := Lib.hid (H4.out.trans (hbn.mono H4.out.size)); clear hbn)
        all_goals refine HQ0.out _ _ ⟨_, _, rfl, by simp [hsz], by simp [f1], Chop.at_same _ _ _ (by simp [hsz]), Lib.hid (or_false HBn.out.go (by cases q2 <;> simp)), by first | exact Bn.out | exact B4.out, by first | exact Hn.out | exact H4.out⟩
      · go_wp2_with fail
        all_goals refine HQ0.out _ _ ⟨_, _, rfl, by simp [hsz], by simp [f1], Chop.at_same _ _ _ (by simp [hsz]), Lib.hid (or_true HBt.out.go), by first | exact Bn.out | exact B4.out, by first | exact Hn.out | exact H4.out⟩
    rintro a w' ⟨T, b, rfl, hsz, f1, fb, HB, hB, hH⟩
    have B5 := Lib.hid hB
    have H5 := Lib.hid hH
    have hx5 := hB.cell
    have z5 : w.heap.size < w'.heap.size := hB.lt
    clear hB hH
    have gb := Chop.getD_of fb
    have g1 := Chop.getD_of f1
    have e1 := Chop.elem_of f1 (by rw [hsz]; decide)
    have eb := Chop.elem_of fb (by rw [hsz]; decide)
    clear hx1 z1 hx4 z4 B1 H1 B4 H4 HQ1 HQ2
    change wpList _ _ _ [] _ _
    refine wpList_nil ?_
    cases hb : b
    case true =>
      subst hb
      have HF := Lib.hid (okD_f (fun h : OkP s.data => by
        have h3 := h.2.1
        have hF := HB.out.1 rfl
        simp only [C3, ScrS.data, HK1.out, HK2.out] at h3
        obtain ⟨g1, g2, g3, g4, g5, g6, g7, g8, g9, g10, g11⟩ := h3
        rw [g10, g11] at hF
        rcases hF with (((((((((((h | h) | h) | h) | h) | h) | h) | h) | h) | h) | h)) <;> first | omega | (exact h.2 (g5 h.1)) | (cases h)))
      go_wp2_with fail
      refine wp_cond_true gb ?_
      go_wp2_with fail
      go_ret
      exact ⟨by rw [show ∀ (x : Array Value), x.getD 2 undef = x.getD 2 undef from fun _ => rfl, Chop.getD_same _ _ _ (by rw [hsz]; decide)]; exact Attr.rt_bool HF.out.symm, H5.out⟩
    subst hb
    have HP3 := Lib.hid (show C3 s.data from by
      have hF : ¬ (((((((((((s.x < 0) ∨ s.w ≤ s.x) ∨ s.y < 0) ∨ s.h ≤ s.y) ∨ (s.wrap = true ∧ ¬ s.x = s.w - 1)) ∨ s.sx < 0) ∨ s.w ≤ s.sx) ∨ s.sy < 0) ∨ s.h ≤ s.sy) ∨ q1 = false) ∨ q2 = false) := fun h => by have := HB.out.2 h; cases this
      simp only [C3, ScrS.data, HK1.out, HK2.out]
      refine ⟨by omega, by omega, by omega, by omega, ?_, by omega, by omega, by omega, by omega, by cases q1 <;> simp_all, by cases q2 <;> simp_all⟩
      intro hw
      exact Classical.byContradiction fun h => hF (by simp [hw, h]))
    clear HB HK1 HK2
    obtain ⟨we, rfl⟩ : ∃ v : World, v = w' := ⟨_, rfl⟩
    go_wp2_with fail
    refine wp_cond_false gb ?_
    go_upto_region 5 with fail
    refine wp_region_lit ?_
    obtain ⟨rn, hrn⟩ : ∃ n, n = s.rows.length := ⟨_, rfl⟩
    have hx5' : (scrA s)[30]? = some (.slice s.bA rn s.bk) := by rw [hrn]; rfl
    have c30 : we.cell? ⟨w.heap.size, 30, none⟩ = some (.slice s.bA rn s.bk) := (hx5 30).trans hx5'
    have hlt2 : rn ≤ 1048576 := by have := HN.out; unfold szS at this; omega
    have HRN := Lib.hid hrn
    clear hx5' hrn
    have c1 : we.cell? ⟨w.heap.size, 1, none⟩ = some (.int .i64 s.h) := hx5 1
    have c17 : we.cell? ⟨w.heap.size, 17, none⟩ = some (.int .i64 s.top) := hx5 17
    have c18 : we.cell? ⟨w.heap.size, 18, none⟩ = some (.int .i64 s.bot) := hx5 18
    have c29 : we.cell? ⟨w.heap.size, 29, none⟩ = some (.int .i64 s.lim) := hx5 29
    clear hx5
    refine Chop.chop_rel 4 (fun a w' => ∃ (T : Array Value) (b : Bool), a = ⟨T, []⟩ ∧ we = w' ∧ T.size = 208 ∧ T[1]? = some (.pointer (some ⟨w.heap.size, 0, none⟩)) ∧ T[122]? = some (.bool b) ∧ Hid (b = true ↔ s.top < 0)) (fun Q0 hQ0 => ?_) ?_
    · have HQ0 := Lib.hid hQ0
      clear hQ0
      change wpList _ _ _ (_ :: _ :: _ :: _ :: []) _ _
      go_wp2_with fail
      all_goals refine HQ0.out _ _ ⟨_, _, rfl, rfl, by simp [hsz], by simp [f1], Chop.at_same _ _ _ (by simp [hsz]), Lib.hid (decide_eq_true_iff)⟩
    rintro a w' ⟨T, b, rfl, rfl, hsz, f1, fb, HB⟩
    have gb := Chop.getD_of fb
    have g1 := Chop.getD_of f1
    have e1 := Chop.elem_of f1 (by rw [hsz]; decide)
    have eb := Chop.elem_of fb (by rw [hsz]; decide)
    refine Chop.chop_rel 7 (fun a w' => ∃ (T : Array Value) (b : Bool), a = ⟨T, []⟩ ∧ we = w' ∧ T.size = 208 ∧ T[1]? = some (.pointer (some ⟨w.heap.size, 0, none⟩)) ∧ T[129]? = some (.bool b) ∧ Hid (b = true ↔ (s.top < 0) ∨ s.h ≤ s.bot)) (fun Q0 hQ0 => ?_) ?_
    · have HQ0 := Lib.hid hQ0
      clear hQ0
      change wpList _ _ _ (_ :: _ :: _ :: _ :: _ :: _ :: _ :: []) _ _
      have HBt := Lib.hid (show Imp b true (s.top < 0) from HB.out.1)
      have HBn := Lib.hid (show Imp b false (No (s.top < 0)) from fun hb h => by rw [HB.out.2 h] at hb; cases hb)
      clear HB
      cases b
      · go_wp2_with fail
        all_goals refine HQ0.out _ _ ⟨_, _, rfl, rfl, by simp [hsz], by simp [f1], Chop.at_same _ _ _ (by simp [hsz]), Lib.hid (or_false HBn.out.go (decide_eq_true_iff))⟩
      · go_wp2_with fail
        all_goals refine HQ0.out _ _ ⟨_, _, rfl, rfl, by simp [hsz], by simp [f1], Chop.at_same _ _ _ (by simp [hsz]), Lib.hid (or_true HBt.out.go)⟩
    rintro a w' ⟨T, b, rfl, rfl, hsz, f1, fb, HB⟩
    have gb := Chop.getD_of fb
    have g1 := Chop.getD_of f1
    have e1 := Chop.elem_of f1 (by rw [hsz]; decide)
    have eb := Chop.elem_of fb (by rw [hsz]; decide)
    refine Chop.chop_rel 7 (fun a w' => ∃ (T : Array Value) (b : Bool), a = ⟨T, []⟩ ∧ we = w' ∧ T.size = 208 ∧ T[1]? = some (.pointer (some ⟨w.heap.size, 0, none⟩)) ∧ T[136]? = some (.bool b) ∧ Hid (b = true ↔ ((s.top < 0) ∨ s.h ≤ s.bot) ∨ s.bot < s.top)) (fun Q0 hQ0 => ?_) ?_
    · have HQ0 := Lib.hid hQ0
      clear hQ0
      change wpList _ _ _ (_ :: _ :: _ :: _ :: _ :: _ :: _ :: []) _ _
      have HBt := Lib.hid (show Imp b true ((s.top < 0) ∨ s.h ≤ s.bot) from HB.out.1)
      have HBn := Lib.hid (show Imp b false (No ((s.top < 0) ∨ s.h ≤ s.bot)) from fun hb h => by rw [HB.out.2 h] at hb; cases hb)
      clear HB
      cases b
      · go_wp2_with fail
        all_goals refine HQ0.out _ _ ⟨_, _, rfl, rfl, by simp [hsz], by simp [f1], Chop.at_same _ _ _ (by simp [hsz]), Lib.hid (or_false HBn.out.go (decide_eq_true_iff))⟩
      · go_wp2_with fail
        all_goals refine HQ0.out _ _ ⟨_, _, rfl, rfl, by simp [hsz], by simp [f1], Chop.at_same _ _ _ (by simp [hsz]), Lib.hid (or_true HBt.out.go)⟩
    rintro a w' ⟨T, b, rfl, rfl, hsz, f1, fb, HB⟩
    have gb := Chop.getD_of fb
    have g1 := Chop.getD_of f1
    have e1 := Chop.elem_of f1 (by rw [hsz]; decide)
    have eb := Chop.elem_of fb (by rw [hsz]; decide)
    refine Chop.chop_rel 12 (fun a w' => ∃ (T : Array Value) (b : Bool), a = ⟨T, []⟩ ∧ we = w' ∧ T.size = 208 ∧ T[1]? = some (.pointer (some ⟨w.heap.size, 0, none⟩)) ∧ T[148]? = some (.bool b) ∧ Hid (b = true ↔ (((s.top < 0) ∨ s.h ≤ s.bot) ∨ s.bot < s.top) ∨ (s.top = s.bot ∧ ¬ s.h = 1))) (fun Q0 hQ0 => ?_) ?_
    · have HQ0 := Lib.hid hQ0
      clear hQ0
      change wpList _ _ _ (_ :: _ :: _ :: _ :: _ :: _ :: _ :: _ :: _ :: _ :: _ :: _ :: []) _ _
      have HBt := Lib.hid (show Imp b true (((s.top < 0) ∨ s.h ≤ s.bot) ∨ s.bot < s.top) from HB.out.1)
      have HBn := Lib.hid (show Imp b false (No (((s.top < 0) ∨ s.h ≤ s.bot) ∨ s.bot < s.top)) from fun hb h => by rw [HB.out.2 h] at hb; cases hb)
      clear HB
      cases b
      · by_cases htb : s.top = s.bot
        · have htb' : (s.top == s.bot) = true := by simpa using htb
          go_wp2_with fail
          all_goals refine HQ0.out _ _ ⟨_, _, rfl, rfl, by simp [hsz], by simp [f1], Chop.at_same _ _ _ (by simp [hsz]), Lib.hid (or_false HBn.out.go (by simp [htb]))⟩
        · have htb' : (s.top == s.bot) = false := by simpa using htb
          go_wp2_with fail
          all_goals refine HQ0.out _ _ ⟨_, _, rfl, rfl, by simp [hsz], by simp [f1], Chop.at_same _ _ _ (by simp [hsz]), Lib.hid (or_false HBn.out.go (by simp [htb]))⟩
      · go_wp2_with fail
        all_goals refine HQ0.out _ _ ⟨_, _, rfl, rfl, by simp [hsz], by simp [f1], Chop.at_same _ _ _ (by simp [hsz]), Lib.hid (or_true HBt.out.go)⟩
    rintro a w' ⟨T, b, rfl, rfl, hsz, f1, fb, HB⟩
    have gb := Chop.getD_of fb
    have g1 := Chop.getD_of f1
    have e1 := Chop.elem_of f1 (by rw [hsz]; decide)
    have eb := Chop.elem_of fb (by rw [hsz]; decide)
    refine Chop.chop_rel 5 (fun a w' => ∃ (T : Array Value) (b : Bool), a = ⟨T, []⟩ ∧ we = w' ∧ T.size = 208 ∧ T[1]? = some (.pointer (some ⟨w.heap.size, 0, none⟩)) ∧ T[153]? = some (.bool b) ∧ Hid (b = true ↔ ((((s.top < 0) ∨ s.h ≤ s.bot) ∨ s.bot < s.top) ∨ (s.top = s.bot ∧ ¬ s.h = 1)) ∨ s.lim < 0)) (fun Q0 hQ0 => ?_) ?_
    · have HQ0 := Lib.hid hQ0
      clear hQ0
      change wpList _ _ _ (_ :: _ :: _ :: _ :: _ :: []) _ _
      have HBt := Lib.hid (show Imp b true ((((s.top < 0) ∨ s.h ≤ s.bot) ∨ s.bot < s.top) ∨ (s.top = s.bot ∧ ¬ s.h = 1)) from HB.out.1)
      have HBn := Lib.hid (show Imp b false (No ((((s.top < 0) ∨ s.h ≤ s.bot) ∨ s.bot < s.top) ∨ (s.top = s.bot ∧ ¬ s.h = 1))) from fun hb h => by rw [HB.out.2 h] at hb; cases hb)
      clear HB
      cases b
      · go_wp2_with fail
        all_goals refine HQ0.out _ _ ⟨_, _, rfl, rfl, by simp [hsz], by simp [f1], Chop.at_same _ _ _ (by simp [hsz]), Lib.hid (or_false HBn.out.go (decide_eq_true_iff))⟩
      · go_wp2_with fail
        all_goals refine HQ0.out _ _ ⟨_, _, rfl, rfl, by simp [hsz], by simp [f1], Chop.at_same _ _ _ (by simp [hsz]), Lib.hid (or_true HBt.out.go)⟩
    rintro a w' ⟨T, b, rfl, rfl, hsz, f1, fb, HB⟩
    have gb := Chop.getD_of fb
    have g1 := Chop.getD_of f1
    have e1 := Chop.elem_of f1 (by rw [hsz]; decide)
    have eb := Chop.elem_of fb (by rw [hsz]; decide)
    refine Chop.chop_rel 5 (fun a w' => ∃ (T : Array Value) (b : Bool), a = ⟨T, []⟩ ∧ we = w' ∧ T.size = 208 ∧ T[1]? = some (.pointer (some ⟨w.heap.size, 0, none⟩)) ∧ T[158]? = some (.bool b) ∧ Hid (b = true ↔ (((((s.top < 0) ∨ s.h ≤ s.bot) ∨ s.bot < s.top) ∨ (s.top = s.bot ∧ ¬ s.h = 1)) ∨ s.lim < 0) ∨ 100 < s.lim)) (fun Q0 hQ0 => ?_) ?_
    · have HQ0 := Lib.hid hQ0
      clear hQ0
      change wpList _ _ _ (_ :: _ :: _ :: _ :: _ :: []) _ _
      have HBt := Lib.hid (show Imp b true (((((s.top < 0) ∨ s.h ≤ s.bot) ∨ s.bot < s.top) ∨ (s.top = s.bot ∧ ¬ s.h = 1)) ∨ s.lim < 0) from HB.out.1)
      have HBn := Lib.hid (show Imp b false (No (((((s.top < 0) ∨ s.h ≤ s.bot) ∨ s.bot < s.top) ∨ (s.top = s.bot ∧ ¬ s.h = 1)) ∨ s.lim < 0)) from fun hb h => by rw [HB.out.2 h] at hb; cases hb)
      clear HB
      cases b
      · go_wp2_with fail
        all_goals refine HQ0.out _ _ ⟨_, _, rfl, rfl, by simp [hsz], by simp [f1], Chop.at_same _ _ _ (by simp [hsz]), Lib.hid (or_false HBn.out.go (decide_eq_true_iff))⟩
      · go_wp2_with fail
        all_goals refine HQ0.out _ _ ⟨_, _, rfl, rfl, by simp [hsz], by simp [f1], Chop.at_same _ _ _ (by simp [hsz]), Lib.hid (or_true HBt.out.go)⟩
    rintro a w' ⟨T, b, rfl, rfl, hsz, f1, fb, HB⟩
    have gb := Chop.getD_of fb
    have g1 := Chop.getD_of f1
    have e1 := Chop.elem_of f1 (by rw [hsz]; decide)
    have eb := Chop.elem_of fb (by rw [hsz]; decide)
    refine Chop.chop_rel 7 (fun a w' => ∃ (T : Array Value) (b : Bool), a = ⟨T, []⟩ ∧ we = w' ∧ T.size = 208 ∧ T[1]? = some (.pointer (some ⟨w.heap.size, 0, none⟩)) ∧ T[165]? = some (.bool b) ∧ Hid (b = true ↔ ((((((s.top < 0) ∨ s.h ≤ s.bot) ∨ s.bot < s.top) ∨ (s.top = s.bot ∧ ¬ s.h = 1)) ∨ s.lim < 0) ∨ 100 < s.lim) ∨ s.lim < (rn : Int))) (fun Q0 hQ0 => ?_) ?_
    · have HQ0 := Lib.hid hQ0
      clear hQ0
      change wpList _ _ _ (_ :: _ :: _ :: _ :: _ :: _ :: _ :: []) _ _
      have HBt := Lib.hid (show Imp b true ((((((s.top < 0) ∨ s.h ≤ s.bot) ∨ s.bot < s.top) ∨ (s.top = s.bot ∧ ¬ s.h = 1)) ∨ s.lim < 0) ∨ 100 < s.lim) from HB.out.1)
      have HBn := Lib.hid (show Imp b false (No ((((((s.top < 0) ∨ s.h ≤ s.bot) ∨ s.bot < s.top) ∨ (s.top = s.bot ∧ ¬ s.h = 1)) ∨ s.lim < 0) ∨ 100 < s.lim)) from fun hb h => by rw [HB.out.2 h] at hb; cases hb)
      clear HB
      cases b
      · go_wp2_with fail
        all_goals refine HQ0.out _ _ ⟨_, _, rfl, rfl, by simp [hsz], by simp [f1], Chop.at_same _ _ _ (by simp [hsz]), Lib.hid (or_false HBn.out.go (decide_eq_true_iff))⟩
      · go_wp2_with fail
        all_goals refine HQ0.out _ _ ⟨_, _, rfl, rfl, by simp [hsz], by simp [f1], Chop.at_same _ _ _ (by simp [hsz]), Lib.hid (or_true HBt.out.go)⟩
    rintro a w' ⟨T, b, rfl, rfl, hsz, f1, fb, HB⟩
    have gb := Chop.getD_of fb
    have g1 := Chop.getD_of f1
    have e1 := Chop.elem_of f1 (by rw [hsz]; decide)
    have eb := Chop.elem_of fb (by rw [hsz]; decide)
    clear c1 c17 c18 c29
    change wpList _ _ _ [] _ _
    refine wpList_nil ?_
    have HC5 := Lib.hid (show C5 s.data = (0 ≤ s.top ∧ s.bot < s.h ∧ s.top ≤ s.bot ∧ (s.top = s.bot → s.h = 1) ∧ 0 ≤ s.lim ∧ s.lim ≤ 100 ∧ (rn : Int) ≤ s.lim) from by rw [HRN.out]; unfold C5 ScrS.data; simp only [List.length_map])
    cases hb : b
    case true =>
      subst hb
      have HF := Lib.hid (okD_f (fun h : OkP s.data => by
        have h5 := h.2.2.1
        have hF := HB.out.1 rfl
        rw [HC5.out] at h5
        obtain ⟨g1, g2, g3, g4, g5, g6, g7⟩ := h5
        rcases hF with ((((((h | h) | h) | h) | h) | h) | h) <;> first | omega | (exact h.2 (g4 h.1))))
      go_wp2_with fail
      refine wp_cond_true gb ?_
      go_wp2_with fail
      go_ret
      exact ⟨by rw [show ∀ (x : Array Value), x.getD 2 undef = x.getD 2 undef from fun _ => rfl, Chop.getD_same _ _ _ (by rw [hsz]; decide)]; exact Attr.rt_bool HF.out.symm, H5.out⟩
    subst hb
    have HP5 := Lib.hid (show C5 s.data from by
      have hF : ¬ (((((((s.top < 0) ∨ s.h ≤ s.bot) ∨ s.bot < s.top) ∨ (s.top = s.bot ∧ ¬ s.h = 1)) ∨ s.lim < 0) ∨ 100 < s.lim) ∨ s.lim < (rn : Int)) := fun h => by have := HB.out.2 h; cases this
      rw [HC5.out]
      exact ⟨by omega, by omega, by omega, fun h => Classical.byContradiction fun h' => hF (by simp [h, h']), by omega, by omega, by omega⟩)
    clear HB HC5
    go_wp2_with fail
    refine wp_cond_false gb ?_
    go_upto_region 7 with fail
    obtain ⟨L0, rfl⟩ : ∃ L : List Value, T = L.toArray := ⟨T.toList, by simp⟩
    have hL0 : L0.length = 208 := by simpa using hsz
    clear hsz g1 e1 gb eb fb
    obtain ⟨t0, L1, rfl, hL1⟩ := uncons hL0
    clear hL0
    obtain ⟨t1, L2, rfl, hL2⟩ := uncons hL1
    clear hL1
    obtain ⟨t2, L3, rfl, hL3⟩ := uncons hL2
    clear hL2
    obtain ⟨t3, L4, rfl, hL4⟩ := uncons hL3
    clear hL3
    obtain ⟨t4, L5, rfl, hL5⟩ := uncons hL4
    clear hL4
    obtain ⟨t5, L6, rfl, hL6⟩ := uncons hL5
    clear hL5
    obtain ⟨t6, L7, rfl, hL7⟩ := uncons hL6
    clear hL6
    obtain ⟨t7, L8, rfl, hL8⟩ := uncons hL7
    clear hL7
    obtain ⟨t8, L9, rfl, hL9⟩ := uncons hL8
    clear hL8
    obtain ⟨t9, L10, rfl, hL10⟩ := uncons hL9
    clear hL9
    obtain ⟨t10, L11, rfl, hL11⟩ := uncons hL10
    clear hL10
    obtain ⟨t11, L12, rfl, hL12⟩ := uncons hL11
    clear hL11
    obtain ⟨t12, L13, rfl, hL13⟩ := uncons hL12
    clear hL12
    obtain ⟨t13, L14, rfl, hL14⟩ := uncons hL13
    clear hL13
    obtain ⟨t14, L15, rfl, hL15⟩ := uncons hL14
    clear hL14
    obtain ⟨t15, L16, rfl, hL16⟩ := uncons hL15
    clear hL15
    obtain ⟨t16, L17, rfl, hL17⟩ := uncons hL16
    clear hL16
    obtain ⟨t17, L18, rfl, hL18⟩ := uncons hL17
    clear hL17
    obtain ⟨t18, L19, rfl, hL19⟩ := uncons hL18
    clear hL18
    obtain ⟨t19, L20, rfl, hL20⟩ := uncons hL19
    clear hL19
    obtain ⟨t20, L21, rfl, hL21⟩ := uncons hL20
    clear hL20
    obtain ⟨t21, L22, rfl, hL22⟩ := uncons hL21
    clear hL21
    obtain ⟨t22, L23, rfl, hL23⟩ := uncons hL22
    clear hL22
    obtain ⟨t23, L24, rfl, hL24⟩ := uncons hL23
    clear hL23
    obtain ⟨t24, L25, rfl, hL25⟩ := uncons hL24
    clear hL24
    obtain ⟨t25, L26, rfl, hL26⟩ := uncons hL25
    clear hL25
    obtain ⟨t26, L27, rfl, hL27⟩ := uncons hL26
    clear hL26
    obtain ⟨t27, L28, rfl, hL28⟩ := uncons hL27
    clear hL27
    obtain ⟨t28, L29, rfl, hL29⟩ := uncons hL28
    clear hL28
    obtain ⟨t29, L30, rfl, hL30⟩ := uncons hL29
    clear hL29
    obtain ⟨t30, L31, rfl, hL31⟩ := uncons hL30
    clear hL30
    obtain ⟨t31, L32, rfl, hL32⟩ := uncons hL31
    clear hL31
    obtain ⟨t32, L33, rfl, hL33⟩ := uncons hL32
    clear hL32
    obtain ⟨t33, L34, rfl, hL34⟩ := uncons hL33
    clear hL33
    obtain ⟨t34, L35, rfl, hL35⟩ := uncons hL34
    clear hL34
    obtain ⟨t35, L36, rfl, hL36⟩ := uncons hL35
    clear hL35
    obtain ⟨t36, L37, rfl, hL37⟩ := uncons hL36
    clear hL36
    obtain ⟨t37, L38, rfl, hL38⟩ := uncons hL37
    clear hL37
    obtain ⟨t38, L39, rfl, hL39⟩ := uncons hL38
    clear hL38
    obtain ⟨t39, L40, rfl, hL40⟩ := uncons hL39
    clear hL39
    obtain ⟨t40, L41, rfl, hL41⟩ := uncons hL40
    clear hL40
    obtain ⟨t41, L42, rfl, hL42⟩ := uncons hL41
    clear hL41
    obtain ⟨t42, L43, rfl, hL43⟩ := uncons hL42
    clear hL42
    obtain ⟨t43, L44, rfl, hL44⟩ := uncons hL43
    clear hL43
    obtain ⟨t44, L45, rfl, hL45⟩ := uncons hL44
    clear hL44
    obtain ⟨t45, L46, rfl, hL46⟩ := uncons hL45
    clear hL45
    obtain ⟨t46, L47, rfl, hL47⟩ := uncons hL46
    clear hL46
    obtain ⟨t47, L48, rfl, hL48⟩ := uncons hL47
    clear hL47
    obtain ⟨t48, L49, rfl, hL49⟩ := uncons hL48
    clear hL48
    obtain ⟨t49, L50, rfl, hL50⟩ := uncons hL49
    clear hL49
    obtain ⟨t50, L51, rfl, hL51⟩ := uncons hL50
    clear hL50
    obtain ⟨t51, L52, rfl, hL52⟩ := uncons hL51
    clear hL51
    obtain ⟨t52, L53, rfl, hL53⟩ := uncons hL52
    clear hL52
    obtain ⟨t53, L54, rfl, hL54⟩ := uncons hL53
    clear hL53
    obtain ⟨t54, L55, rfl, hL55⟩ := uncons hL54
    clear hL54
    obtain ⟨t55, L56, rfl, hL56⟩ := uncons hL55
    clear hL55
    obtain ⟨t56, L57, rfl, hL57⟩ := uncons hL56
    clear hL56
    obtain ⟨t57, L58, rfl, hL58⟩ := uncons hL57
    clear hL57
    obtain ⟨t58, L59, rfl, hL59⟩ := uncons hL58
    clear hL58
    obtain ⟨t59, L60, rfl, hL60⟩ := uncons hL59
    clear hL59
    obtain ⟨t60, L61, rfl, hL61⟩ := uncons hL60
    clear hL60
    obtain ⟨t61, L62, rfl, hL62⟩ := uncons hL61
    clear hL61
    obtain ⟨t62, L63, rfl, hL63⟩ := uncons hL62
    clear hL62
    obtain ⟨t63, L64, rfl, hL64⟩ := uncons hL63
    clear hL63
    obtain ⟨t64, L65, rfl, hL65⟩ := uncons hL64
    clear hL64
    obtain ⟨t65, L66, rfl, hL66⟩ := uncons hL65
    clear hL65
    obtain ⟨t66, L67, rfl, hL67⟩ := uncons hL66
    clear hL66
    obtain ⟨t67, L68, rfl, hL68⟩ := uncons hL67
    clear hL67
    obtain ⟨t68, L69, rfl, hL69⟩ := uncons hL68
    clear hL68
    obtain ⟨t69, L70, rfl, hL70⟩ := uncons hL69
    clear hL69
    obtain ⟨t70, L71, rfl, hL71⟩ := uncons hL70
    clear hL70
    obtain ⟨t71, L72, rfl, hL72⟩ := uncons hL71
    clear hL71
    obtain ⟨t72, L73, rfl, hL73⟩ := uncons hL72
    clear hL72
    obtain ⟨t73, L74, rfl, hL74⟩ := uncons hL73
    clear hL73
    obtain ⟨t74, L75, rfl, hL75⟩ := uncons hL74
    clear hL74
    obtain ⟨t75, L76, rfl, hL76⟩ := uncons hL75
    clear hL75
    obtain ⟨t76, L77, rfl, hL77⟩ := uncons hL76
    clear hL76
    obtain ⟨t77, L78, rfl, hL78⟩ := uncons hL77
    clear hL77
    obtain ⟨t78, L79, rfl, hL79⟩ := uncons hL78
    clear hL78
    obtain ⟨t79, L80, rfl, hL80⟩ := uncons hL79
    clear hL79
    obtain ⟨t80, L81, rfl, hL81⟩ := uncons hL80
    clear hL80
    obtain ⟨t81, L82, rfl, hL82⟩ := uncons hL81
    clear hL81
    obtain ⟨t82, L83, rfl, hL83⟩ := uncons hL82
    clear hL82
    obtain ⟨t83, L84, rfl, hL84⟩ := uncons hL83
    clear hL83
    obtain ⟨t84, L85, rfl, hL85⟩ := uncons hL84
    clear hL84
    obtain ⟨t85, L86, rfl, hL86⟩ := uncons hL85
    clear hL85
    obtain ⟨t86, L87, rfl, hL87⟩ := uncons hL86
    clear hL86
    obtain ⟨t87, L88, rfl, hL88⟩ := uncons hL87
    clear hL87
    obtain ⟨t88, L89, rfl, hL89⟩ := uncons hL88
    clear hL88
    obtain ⟨t89, L90, rfl, hL90⟩ := uncons hL89
    clear hL89
    obtain ⟨t90, L91, rfl, hL91⟩ := uncons hL90
    clear hL90
    obtain ⟨t91, L92, rfl, hL92⟩ := uncons hL91
    clear hL91
    obtain ⟨t92, L93, rfl, hL93⟩ := uncons hL92
    clear hL92
    obtain ⟨t93, L94, rfl, hL94⟩ := uncons hL93
    clear hL93
    obtain ⟨t94, L95, rfl, hL95⟩ := uncons hL94
    clear hL94
    obtain ⟨t95, L96, rfl, hL96⟩ := uncons hL95
    clear hL95
    obtain ⟨t96, L97, rfl, hL97⟩ := uncons hL96
    clear hL96
    obtain ⟨t97, L98, rfl, hL98⟩ := uncons hL97
    clear hL97
    obtain ⟨t98, L99, rfl, hL99⟩ := uncons hL98
    clear hL98
    obtain ⟨t99, L100, rfl, hL100⟩ := uncons hL99
    clear hL99
    obtain ⟨t100, L101, rfl, hL101⟩ := uncons hL100
    clear hL100
    obtain ⟨t101, L102, rfl, hL102⟩ := uncons hL101
    clear hL101
    obtain ⟨t102, L103, rfl, hL103⟩ := uncons hL102
    clear hL102
    obtain ⟨t103, L104, rfl, hL104⟩ := uncons hL103
    clear hL103
    obtain ⟨t104, L105, rfl, hL105⟩ := uncons hL104
    clear hL104
    obtain ⟨t105, L106, rfl, hL106⟩ := uncons hL105
    clear hL105
    obtain ⟨t106, L107, rfl, hL107⟩ := uncons hL106
    clear hL106
    obtain ⟨t107, L108, rfl, hL108⟩ := uncons hL107
    clear hL107
    obtain ⟨t108, L109, rfl, hL109⟩ := uncons hL108
    clear hL108
    obtain ⟨t109, L110, rfl, hL110⟩ := uncons hL109
    clear hL109
    obtain ⟨t110, L111, rfl, hL111⟩ := uncons hL110
    clear hL110
    obtain ⟨t111, L112, rfl, hL112⟩ := uncons hL111
    clear hL111
    obtain ⟨t112, L113, rfl, hL113⟩ := uncons hL112
    clear hL112
    obtain ⟨t113, L114, rfl, hL114⟩ := uncons hL113
    clear hL113
    obtain ⟨t114, L115, rfl, hL115⟩ := uncons hL114
    clear hL114
    obtain ⟨t115, L116, rfl, hL116⟩ := uncons hL115
    clear hL115
    obtain ⟨t116, L117, rfl, hL117⟩ := uncons hL116
    clear hL116
    obtain ⟨t117, L118, rfl, hL118⟩ := uncons hL117
    clear hL117
    obtain ⟨t118, L119, rfl, hL119⟩ := uncons hL118
    clear hL118
    obtain ⟨t119, L120, rfl, hL120⟩ := uncons hL119
    clear hL119
    obtain ⟨t120, L121, rfl, hL121⟩ := uncons hL120
    clear hL120
    obtain ⟨t121, L122, rfl, hL122⟩ := uncons hL121
    clear hL121
    obtain ⟨t122, L123, rfl, hL123⟩ := uncons hL122
    clear hL122
    obtain ⟨t123, L124, rfl, hL124⟩ := uncons hL123
    clear hL123
    obtain ⟨t124, L125, rfl, hL125⟩ := uncons hL124
    clear hL124
    obtain ⟨t125, L126, rfl, hL126⟩ := uncons hL125
    clear hL125
    obtain ⟨t126, L127, rfl, hL127⟩ := uncons hL126
    clear hL126
    obtain ⟨t127, L128, rfl, hL128⟩ := uncons hL127
    clear hL127
    obtain ⟨t128, L129, rfl, hL129⟩ := uncons hL128
    clear hL128
    obtain ⟨t129, L130, rfl, hL130⟩ := uncons hL129
    clear hL129
    obtain ⟨t130, L131, rfl, hL131⟩ := uncons hL130
    clear hL130
    obtain ⟨t131, L132, rfl, hL132⟩ := uncons hL131
    clear hL131
    obtain ⟨t132, L133, rfl, hL133⟩ := uncons hL132
    clear hL132
    obtain ⟨t133, L134, rfl, hL134⟩ := uncons hL133
    clear hL133
    obtain ⟨t134, L135, rfl, hL135⟩ := uncons hL134
    clear hL134
    obtain ⟨t135, L136, rfl, hL136⟩ := uncons hL135
    clear hL135
    obtain ⟨t136, L137, rfl, hL137⟩ := uncons hL136
    clear hL136
    obtain ⟨t137, L138, rfl, hL138⟩ := uncons hL137
    clear hL137
    obtain ⟨t138, L139, rfl, hL139⟩ := uncons hL138
    clear hL138
    obtain ⟨t139, L140, rfl, hL140⟩ := uncons hL139
    clear hL139
    obtain ⟨t140, L141, rfl, hL141⟩ := uncons hL140
    clear hL140
    obtain ⟨t141, L142, rfl, hL142⟩ := uncons hL141
    clear hL141
    obtain ⟨t142, L143, rfl, hL143⟩ := uncons hL142
    clear hL142
    obtain ⟨t143, L144, rfl, hL144⟩ := uncons hL143
    clear hL143
    obtain ⟨t144, L145, rfl, hL145⟩ := uncons hL144
    clear hL144
    obtain ⟨t145, L146, rfl, hL146⟩ := uncons hL145
    clear hL145
    obtain ⟨t146, L147, rfl, hL147⟩ := uncons hL146
    clear hL146
    obtain ⟨t147, L148, rfl, hL148⟩ := uncons hL147
    clear hL147
    obtain ⟨t148, L149, rfl, hL149⟩ := uncons hL148
    clear hL148
    obtain ⟨t149, L150, rfl, hL150⟩ := uncons hL149
    clear hL149
    obtain ⟨t150, L151, rfl, hL151⟩ := uncons hL150
    clear hL150
    obtain ⟨t151, L152, rfl, hL152⟩ := uncons hL151
    clear hL151
    obtain ⟨t152, L153, rfl, hL153⟩ := uncons hL152
    clear hL152
    obtain ⟨t153, L154, rfl, hL154⟩ := uncons hL153
    clear hL153
    obtain ⟨t154, L155, rfl, hL155⟩ := uncons hL154
    clear hL154
    obtain ⟨t155, L156, rfl, hL156⟩ := uncons hL155
    clear hL155
    obtain ⟨t156, L157, rfl, hL157⟩ := uncons hL156
    clear hL156
    obtain ⟨t157, L158, rfl, hL158⟩ := uncons hL157
    clear hL157
    obtain ⟨t158, L159, rfl, hL159⟩ := uncons hL158
    clear hL158
    obtain ⟨t159, L160, rfl, hL160⟩ := uncons hL159
    clear hL159
    obtain ⟨t160, L161, rfl, hL161⟩ := uncons hL160
    clear hL160
    obtain ⟨t161, L162, rfl, hL162⟩ := uncons hL161
    clear hL161
    obtain ⟨t162, L163, rfl, hL163⟩ := uncons hL162
    clear hL162
    obtain ⟨t163, L164, rfl, hL164⟩ := uncons hL163
    clear hL163
    obtain ⟨t164, L165, rfl, hL165⟩ := uncons hL164
    clear hL164
    obtain ⟨t165, L166, rfl, hL166⟩ := uncons hL165
    clear hL165
    obtain ⟨t166, L167, rfl, hL167⟩ := uncons hL166
    clear hL166
    obtain ⟨t167, L168, rfl, hL168⟩ := uncons hL167
    clear hL167
    obtain ⟨t168, L169, rfl, hL169⟩ := uncons hL168
    clear hL168
    obtain ⟨t169, L170, rfl, hL170⟩ := uncons hL169
    clear hL169
    obtain ⟨t170, L171, rfl, hL171⟩ := uncons hL170
    clear hL170
    obtain ⟨t171, L172, rfl, hL172⟩ := uncons hL171
    clear hL171
    obtain ⟨t172, L173, rfl, hL173⟩ := uncons hL172
    clear hL172
    obtain ⟨t173, L174, rfl, hL174⟩ := uncons hL173
    clear hL173
    obtain ⟨t174, L175, rfl, hL175⟩ := uncons hL174
    clear hL174
    obtain ⟨t175, L176, rfl, hL176⟩ := uncons hL175
    clear hL175
    obtain ⟨t176, L177, rfl, hL177⟩ := uncons hL176
    clear hL176
    obtain ⟨t177, L178, rfl, hL178⟩ := uncons hL177
    clear hL177
    obtain ⟨t178, L179, rfl, hL179⟩ := uncons hL178
    clear hL178
    obtain ⟨t179, L180, rfl, hL180⟩ := uncons hL179
    clear hL179
    obtain ⟨t180, L181, rfl, hL181⟩ := uncons hL180
    clear hL180
    obtain ⟨t181, L182, rfl, hL182⟩ := uncons hL181
    clear hL181
    obtain ⟨t182, L183, rfl, hL183⟩ := uncons hL182
    clear hL182
    obtain ⟨t183, L184, rfl, hL184⟩ := uncons hL183
    clear hL183
    obtain ⟨t184, L185, rfl, hL185⟩ := uncons hL184
    clear hL184
    obtain ⟨t185, L186, rfl, hL186⟩ := uncons hL185
    clear hL185
    obtain ⟨t186, L187, rfl, hL187⟩ := uncons hL186
    clear hL186
    obtain ⟨t187, L188, rfl, hL188⟩ := uncons hL187
    clear hL187
    obtain ⟨t188, L189, rfl, hL189⟩ := uncons hL188
    clear hL188
    obtain ⟨t189, L190, rfl, hL190⟩ := uncons hL189
    clear hL189
    obtain ⟨t190, L191, rfl, hL191⟩ := uncons hL190
    clear hL190
    obtain ⟨t191, L192, rfl, hL192⟩ := uncons hL191
    clear hL191
    obtain ⟨t192, L193, rfl, hL193⟩ := uncons hL192
    clear hL192
    obtain ⟨t193, L194, rfl, hL194⟩ := uncons hL193
    clear hL193
    obtain ⟨t194, L195, rfl, hL195⟩ := uncons hL194
    clear hL194
    obtain ⟨t195, L196, rfl, hL196⟩ := uncons hL195
    clear hL195
    obtain ⟨t196, L197, rfl, hL197⟩ := uncons hL196
    clear hL196
    obtain ⟨t197, L198, rfl, hL198⟩ := uncons hL197
    clear hL197
    obtain ⟨t198, L199, rfl, hL199⟩ := uncons hL198
    clear hL198
    obtain ⟨t199, L200, rfl, hL200⟩ := uncons hL199
    clear hL199
    obtain ⟨t200, L201, rfl, hL201⟩ := uncons hL200
    clear hL200
    obtain ⟨t201, L202, rfl, hL202⟩ := uncons hL201
    clear hL201
    obtain ⟨t202, L203, rfl, hL203⟩ := uncons hL202
    clear hL202
    obtain ⟨t203, L204, rfl, hL204⟩ := uncons hL203
    clear hL203
    obtain ⟨t204, L205, rfl, hL205⟩ := uncons hL204
    clear hL204
    obtain ⟨t205, L206, rfl, hL206⟩ := uncons hL205
    clear hL205
    obtain ⟨t206, L207, rfl, hL207⟩ := uncons hL206
    clear hL206
    obtain ⟨t207, L208, rfl, hL208⟩ := uncons hL207
    clear hL207
    obtain rfl := List.eq_nil_of_length_eq_zero hL208
    obtain rfl : t1 = _ := Option.some.inj f1
    clear f1 hL208
    have hlt1 : s.tabs.length ≤ 1048576 := by have := HN.out; unfold szS at this; omega
    have HT0 := Lib.hid ((HR.out.t.below (Nat.le_refl _) H5.out).more H5.out.size)
    have HTR := Lib.hid (fun W (h : Below w.heap.size w W) => (HR.out.r.below (Nat.le_refl _) h).more h.size)
    have HTC := Lib.hid (fun W (h : Below w.heap.size w W) => (HR.out.rc.below (Nat.le_refl _) h).more h.size)
    have HCN := Lib.hid (show ∀ r ∈ s.rows, r.cs.length ≤ 1048576 from fun r hr => by have := tot_mem hr; have h2 := HN.out; unfold szS at h2; omega)
    obtain ⟨tn, htn⟩ : ∃ n, n = s.tabs.length := ⟨_, rfl⟩
    have e28 : (scrA s)[28]? = some (.slice s.tA tn s.tk) := by rw [htn]; rfl
    rw [← htn] at hlt1
    have HTN := Lib.hid htn
    have c28 : we.cell? ⟨w.heap.size, 28, none⟩ = some (.slice s.tA tn s.tk) := (B5.out.cell 28).trans e28
    have c0 : we.cell? ⟨w.heap.size, 0, none⟩ = some (.int .i64 s.w) := B5.out.cell 0
    clear e28 htn HR HN HM HA
    have HB5 := Lib.hid (B5.out)
    generalize s.tA = tA at *
    generalize s.bA = bA at *
    go_wp2_with fail
    go_loop [169] (fun i => ∃ k : Nat, k ≤ tn ∧ i = .int .i64 k ∧ okT (-1) s.w (s.tabs.take k) = true) (fun i => tn - (intOf i).toNat)
    case atStart => exact ⟨0, Nat.zero_le _, rfl, rfl⟩
    case round =>
      obtain ⟨k, hk, rfl, hok⟩ := hrel
      have HOK := Lib.hid hok
      clear hok
      by_cases hlt : k < tn
      · have hlf : k < s.tabs.length := by rw [← HTN.out]; exact hlt
        obtain ⟨b, o, rfl, hB, hc⟩ := HT0.out.at_ hlf
        have HNO := Lib.hid (fun h => okD_f (fun h' : OkP s.data => by have h1 := h'.2.2.2.1; rw [show s.data.tabs = s.tabs from rfl, show s.data.w = s.w from rfl, okT_no hlf h] at h1; cases h1))
        have HNX := Lib.hid (fun h1 h2 => okT_next hlf HOK.out h1 h2)
        rcases Nat.eq_zero_or_pos k with hk0 | hkp
        · subst hk0
          rw [show lastOf (-1) (s.tabs.take 0) = -1 from rfl] at HNO HNX
          generalize s.tabs[0] = t at *
          clear HOK HT0
          rw [Nat.add_zero] at hc
          by_cases h1 : t < 0
          · have N := Lib.hid (HNO.out (by omega))
            have d1 : decide (t < 0) = true := decide_eq_true h1
            clear HNO HNX
            go_wp2_with fail
            go_ret
            exact ⟨Attr.rt_bool N.out.symm, H5.out⟩
          · have d1 : decide (t < 0) = false := decide_eq_false h1
            by_cases h2 : s.w ≤ t
            · have N := Lib.hid (HNO.out (by omega))
              have d2 : decide (s.w ≤ t) = true := decide_eq_true h2
              clear HNO HNX
              go_wp2_with fail
              go_ret
              exact ⟨Attr.rt_bool N.out.symm, H5.out⟩
            · have d2 : decide (s.w ≤ t) = false := decide_eq_false h2
              have N := Lib.hid (HNX.out (by omega) (by omega))
              clear HNO HNX
              go_wp2_with fail
              exact ⟨⟨1, by omega, by go_num, N.out⟩, by simp [intOf]; omega⟩
        · obtain ⟨j, hj⟩ : ∃ j, k = j + 1 := ⟨k - 1, by omega⟩
          have hjn : j < tn := by omega
          have hjf : j < s.tabs.length := by omega
          have hlast : lastOf (-1) (s.tabs.take k) = s.tabs[j] := by subst hj; exact last_succ hjf
          have hnn : 0 ≤ s.tabs[j] := by subst hj; exact last_nonneg hjf HOK.out
          obtain ⟨b', o', hbo, hB', hc'⟩ := HT0.out.at_ hjf
          simp only [Option.some.injEq, Addr.mk.injEq] at hbo
          obtain ⟨rfl, rfl, _⟩ := hbo
          rw [hlast] at HNO HNX
          generalize s.tabs[k] = t at *
          generalize s.tabs[j] = p at *
          have ek : (k : Int) - 1 = (j : Int) := by omega
          have d0 : decide (0 < (k : Int)) = true := decide_eq_true (by omega)
          clear HOK HT0 hlast hj
          by_cases h1 : t < 0
          · have N := Lib.hid (HNO.out (by omega))
            have d1 : decide (t < 0) = true := decide_eq_true h1
            clear HNO HNX
            go_wp2_with fail
            go_ret
            exact ⟨Attr.rt_bool N.out.symm, H5.out⟩
          · have d1 : decide (t < 0) = false := decide_eq_false h1
            by_cases h2 : s.w ≤ t
            · have N := Lib.hid (HNO.out (by omega))
              have d2 : decide (s.w ≤ t) = true := decide_eq_true h2
              clear HNO HNX
              go_wp2_with fail
              go_ret
              exact ⟨Attr.rt_bool N.out.symm, H5.out⟩
            · have d2 : decide (s.w ≤ t) = false := decide_eq_false h2
              by_cases h3 : t ≤ p
              · have N := Lib.hid (HNO.out (by omega))
                have d3 : decide (t ≤ p) = true := decide_eq_true h3
                clear HNO HNX
                go_wp2_with fail
                go_ret
                exact ⟨Attr.rt_bool N.out.symm, H5.out⟩
              · have d3 : decide (t ≤ p) = false := decide_eq_false h3
                have N := Lib.hid (HNX.out (by omega) (by omega))
                clear HNO HNX
                go_wp2_with fail
                exact ⟨⟨k + 1, by omega, by go_num, N.out⟩, by simp [intOf]; omega⟩
      · obtain rfl : tn = k := by omega
        have HTO := Lib.hid (show okT (-1) s.w s.tabs = true by have := HOK.out; rwa [List.take_of_length_le (by rw [← HTN.out]; exact Nat.le_refl _)] at this)
        clear HOK HT0
        go_wp2_with fail
        go_loopw [200] (fun i wr => ∃ k : Nat, k ≤ rn ∧ i = .int .i64 k ∧ (s.rows.take k).all (fun r => okRow r.cs) = true ∧ Below w.heap.size w wr) (fun i _ => rn - (intOf i).toNat)
        case atStart => exact ⟨0, Nat.zero_le _, rfl, by simp, H5.out⟩
        case round =>
          obtain ⟨k, hk, rfl, ha, hb⟩ := hrel
          have HA := Lib.hid ha
          have HB := Lib.hid hb
          have hz : w.heap.size ≤ wr.heap.size := hb.size
          clear ha hb
          by_cases hlt : k < rn
          · have hlf : k < s.rows.length := by rw [← HRN.out]; exact hlt
            obtain ⟨b, o, rfl, hB, hc⟩ := (HTR.out wr HB.out).at_ hlf
            have HRD := Lib.hid (HTC.out wr HB.out _ (List.getElem_mem hlf))
            have hrl := HCN.out _ (List.getElem_mem hlf)
            have HNO := Lib.hid (fun h => rows_no hlf h)
            have HNX := Lib.hid (fun h => rows_next hlf HA.out h)
            generalize s.rows[k].A = x1 at *
            generalize s.rows[k].c = x3 at *
            generalize s.rows[k].cs = zs at *
            obtain ⟨x2, hx2⟩ : ∃ x, x = zs.length := ⟨_, rfl⟩
            rw [← hx2] at hc hrl
            have HX2 := Lib.hid hx2
            clear hx2
            go_wp2_with fail
            refine (l09Row_any x1 x2 x3 zs _ (HRD.out.below (Nat.le_refl _) ((Below.refl _ _).alloc (Nat.le_refl _) _) |>.more (by simp)) HX2.out.symm (by omega)).mono ?_
            rintro e v1 ⟨rfl, hb1⟩
            have HB1 := Lib.hid (HB.out.trans (((Below.refl wr.heap.size wr).alloc (Nat.le_refl _) _ |>.trans (hb1.mono (by simp))).mono hz))
            clear hb1
            cases hq : okRow zs
            · have N := Lib.hid (HNO.out hq)
              clear HNO HNX hq
              go_wp2_with fail
              go_ret
              exact ⟨Attr.rt_bool N.out.symm, HB1.out⟩
            · have N := Lib.hid (HNX.out hq)
              clear HNO HNX hq
              go_wp2_with fail
              exact ⟨⟨k + 1, by omega, by go_num, N.out, HB1.out⟩, by simp [intOf]; omega⟩
          · obtain rfl : rn = k := by omega
            have HF := Lib.hid (okD_t (show OkP s.data from ⟨HP1.out, HP3.out, HP5.out, HTO.out, rows_all HRN.out HA.out⟩))
            go_wp2_with fail
            go_ret
            exact ⟨Attr.rt_bool HF.out.symm, HB.out⟩
end Go.Proofs.Ythlpchojlddnbaa.Sc

