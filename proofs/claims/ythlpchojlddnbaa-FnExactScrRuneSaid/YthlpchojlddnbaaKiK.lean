/- Words and lemmas, merged (once: ScOkP, ScOkG, ScOkI) -/
import Derived.Test.YthlpchojlddnbaaScOkW
import Derived.Test.YthlpchojlddnbaaKiEh
import Derived.Test.YthlpchojlddnbaaScLim
import Derived.Test.YthlpchojlddnbaaScSz
import Derived.Test.YthlpchojlddnbaaScEq
import Derived.Test.YthlpchojlddnbaaScO
import Derived.Test.YthlpchojlddnbaaKiO
import Derived.Deep.Cut
import Derived.Deep.CutRange
import Derived.Deep.DeepCutAuto
import Derived.Outline
import Derived.Test.YthlpchojlddnbaaAttrB
import Derived.Test.YthlpchojlddnbaaGrOk
namespace Go.Proofs.Ythlpchojlddnbaa.Sc
open Go.RowKit Go.Proofs.Ythlpchojlddnbaa.Bytes Go.Proofs.Ythlpchojlddnbaa.Rows_ Go.Proofs.Ythlpchojlddnbaa.RowK Go.Proofs.Ythlpchojlddnbaa.Gr Go.Proofs.Ythlpchojlddnbaa.DOk Go.Proofs.Ythlpchojlddnbaa.Opq Go.Proofs.Ythlpchojlddnbaa.Attr
set_option linter.unusedVariables false
def hasS (gw gh w h : Int) : Bool := decide (gw = w ∧ gh = h)
theorem hasS_t {gw gh w h : Int} (h1 : gw = w) (h2 : gh = h) : hasS gw gh w h = true := decide_eq_true ⟨h1, h2⟩
theorem hasS_f {gw gh w h : Int} (h1 : ¬ (gw = w ∧ gh = h)) : hasS gw gh w h = false := decide_eq_false h1
set_option maxRecDepth 100000 in
set_option maxHeartbeats 1600000 in
theorem hasSize_any (gw gh : Int) (A : Option Addr) (n c : Nat) (x y : Int) (w : World) :
    Calls Try.prog 126 #[.agg #[.int .i64 gw, .int .i64 gh, .slice A n c], .int .i64 x, .int .i64 y] w fun e w' => e = .returned (.bool (hasS gw gh x y)) ∧ Below w.heap.size w w' := by
  have hb0 := Lib.hid ((Below.refl w.heap.size w).alloc (Nat.le_refl _) (.cells #[.int .i64 gw, .int .i64 gh, .slice A n c] 32))
  by_cases h1 : gw = x
  · by_cases h2 : gh = y
    · have HF := Lib.hid (hasS_t h1 h2).symm
      subst h1
      subst h2
      go_enter Try.func126, Try.ntmps126
      go_wp2_with fail
      go_ret
      exact ⟨Attr.rt_bool HF.out, hb0.out⟩
    · have HF := Lib.hid (hasS_f (fun h => h2 h.2 : ¬ (gw = x ∧ gh = y))).symm
      subst h1
      go_enter Try.func126, Try.ntmps126
      go_wp2_with fail
      go_ret
      exact ⟨Attr.rt_bool (by rw [← HF.out]; exact beq_false_of_ne h2), hb0.out⟩
  · have HF := Lib.hid (hasS_f (fun h => h1 h.1 : ¬ (gw = x ∧ gh = y))).symm
    go_enter Try.func126, Try.ntmps126
    go_wp2_with fail
    go_ret
    exact ⟨Attr.rt_bool HF.out, hb0.out⟩
theorem back_no {rs : List SlC} {k : Nat} (hlf : k < rs.length) (h : okRow rs[k].cs = false) : rs.all (fun r => okRow r.cs) = false := by
  cases hq : rs.all (fun r => okRow r.cs)
  · rfl
  · have := (List.all_eq_true.1 hq) _ (List.getElem_mem hlf); simp [h] at this
theorem back_next {rs : List SlC} {k : Nat} (hlf : k < rs.length) (ha : (rs.take k).all (fun r => okRow r.cs) = true) (h : okRow rs[k].cs = true) : (rs.take (k + 1)).all (fun r => okRow r.cs) = true := by
  rw [List.take_succ_eq_append_getElem hlf, List.all_append, ha]; simp [h]
def regB (top bot h : Int) : Bool := decide (0 ≤ top ∧ bot < h ∧ top ≤ bot ∧ (top = bot → h = 1))
theorem regB_t {t b h : Int} (h1 : 0 ≤ t ∧ b < h ∧ t ≤ b ∧ (t = b → h = 1)) : regB t b h = true := decide_eq_true h1
theorem regB_f {t b h : Int} (h1 : ¬ (0 ≤ t ∧ b < h ∧ t ≤ b ∧ (t = b → h = 1))) : regB t b h = false := decide_eq_false h1
set_option maxRecDepth 100000 in
set_option maxHeartbeats 1600000 in
theorem isRegion_any (t b h : Int) (w : World) :
    Calls Try.prog 111 #[.int .i64 t, .int .i64 b, .int .i64 h] w fun e w' => e = .returned (.bool (regB t b h)) ∧ w = w' := by
  by_cases h1 : 0 ≤ t
  · by_cases h2 : b < h
    · by_cases h3 : t < b
      · have HF := Lib.hid (regB_t (t := t) (b := b) (h := h) (by omega)).symm
        go_enter Try.func111, Try.ntmps111
        go_wp2_with fail
        go_ret
        exact ⟨Attr.rt_bool HF.out, rfl⟩
      · by_cases h4 : t = b
        · subst h4
          by_cases h5 : h = 1
          · have HF := Lib.hid (regB_t (t := t) (b := t) (h := h) (by omega)).symm
            subst h5
            go_enter Try.func111, Try.ntmps111
            go_wp2_with fail
            go_ret
            exact ⟨Attr.rt_bool HF.out, rfl⟩
          · have HF := Lib.hid (regB_f (t := t) (b := t) (h := h) (by omega)).symm
            go_enter Try.func111, Try.ntmps111
            go_wp2_with fail
            go_ret
            exact ⟨Attr.rt_bool (by rw [← HF.out]; exact beq_false_of_ne h5), rfl⟩
        · have HF := Lib.hid (regB_f (t := t) (b := b) (h := h) (by omega)).symm
          go_enter Try.func111, Try.ntmps111
          go_wp2_with fail
          go_ret
          exact ⟨Attr.rt_bool HF.out, rfl⟩
    · have HF := Lib.hid (regB_f (t := t) (b := b) (h := h) (by omega)).symm
      go_enter Try.func111, Try.ntmps111
      go_wp2_with fail
      go_ret
      exact ⟨Attr.rt_bool HF.out, rfl⟩
  · have HF := Lib.hid (regB_f (t := t) (b := b) (h := h) (by omega)).symm
    go_enter Try.func111, Try.ntmps111
    go_wp2_with fail
    go_ret
    exact ⟨Attr.rt_bool HF.out, rfl⟩
set_option maxRecDepth 100000 in
set_option maxHeartbeats 1600000 in
theorem areAscending_any (A : Option Addr) (n c : Nat) (zs : List Int) (x : Int) (w : World) (hr : RdI w w.heap.size A zs) (hl : zs.length = n) (hn : n ≤ 1099511627776) (hx : x ≤ 1099511627776) :
    Calls Try.prog 112 #[.slice A n c, .int .i64 0, .int .i64 x] w fun e w' => e = .returned (.bool (okT (-1) x zs)) ∧ w = w' := by
  have HR := Lib.hid hr
  have HL := Lib.hid hl
  clear hr hl
  go_enter Try.func112, Try.ntmps112
  go_wp2_with fail
  go_loopw [1, 11] (fun la i wr => ∃ k : Nat, k ≤ n ∧ la = .int .i64 (lastOf (-1) (zs.take k) + 1) ∧ i = .int .i64 k ∧ okT (-1) x (zs.take k) = true ∧ Hid (-1 ≤ lastOf (-1) (zs.take k)) ∧ w = wr) (fun _ i _ => n - (intOf i).toNat)
  case atStart => exact ⟨0, Nat.zero_le _, rfl, rfl, by simp [okT], Lib.hid (by simp [lastOf]), rfl⟩
  case round =>
    obtain ⟨k, hk, rfl, rfl, ha, HM, rfl⟩ := hrel
    have HA := Lib.hid ha
    clear ha
    by_cases hlt : k < n
    · have hlf : k < zs.length := by rw [HL.out]; exact hlt
      obtain ⟨b, o, rfl, hB, hc⟩ := HR.out.at_ hlf
      have HNO := Lib.hid (fun h => okT_no (w := x) hlf h)
      have HNX := Lib.hid (fun h1 h2 => okT_next (w := x) hlf HA.out h1 h2)
      have HLA := Lib.hid (last_succ hlf)
      have hm := HM.out
      generalize zs[k] = z at *
      generalize hla : lastOf (-1) (zs.take k) = la at *
      clear hla HM
      by_cases h1 : la < z
      · by_cases h2 : z < x
        · have N := Lib.hid (HNX.out h1 h2)
          have g1 : ¬ z < la + 1 := by omega
          have g2 : ¬ x ≤ z := by omega
          have g3 : z + 1 ≤ 9223372036854775807 := by omega
          have g4 : -9223372036854775808 ≤ z + 1 := by omega
          have HM2 := Lib.hid (show -1 ≤ z by omega)
          clear HNO HNX
          go_wp2_with fail
          exact ⟨⟨k + 1, by omega, by rw [HLA.out], by go_num, N.out, by rw [HLA.out]; exact HM2, trivial⟩, by simp [intOf]; omega⟩
        · have N := Lib.hid (HNO.out (fun h => h2 h.2))
          have g1 : ¬ z < la + 1 := by omega
          have g2 : x ≤ z := by omega
          clear HNO HNX
          go_wp2_with fail
          go_ret
          exact ⟨Attr.rt_bool N.out.symm, rfl⟩
      · have N := Lib.hid (HNO.out (fun h => h1 h.1))
        have g1 : z < la + 1 := by omega
        clear HNO HNX
        go_wp2_with fail
        go_ret
        exact ⟨Attr.rt_bool N.out.symm, rfl⟩
    · obtain rfl : n = k := by omega
      have HF := Lib.hid (show okT (-1) x zs = true by have := HA.out; rwa [← HL.out, List.take_length] at this)
      go_wp2_with fail
      go_ret
      exact ⟨Attr.rt_bool HF.out.symm, rfl⟩
set_option maxRecDepth 100000 in
set_option maxHeartbeats 1600000 in
theorem isBack_any (A : Option Addr) (n c : Nat) (rs : List SlC) (x : Int) (w : World) (hr : RdR w w.heap.size A rs) (hc : RdCs w w.heap.size rs) (hl : rs.length = n) (hn : n ≤ 1099511627776) (hcn : ∀ r ∈ rs, r.cs.length ≤ 1099511627776) :
    Calls Try.prog 114 #[.slice A n c, .int .i64 x] w fun e w' => e = .returned (.bool (rs.all (fun r => okRow r.cs) && decide ((n : Int) ≤ x))) ∧ Below w.heap.size w w' := by
  have HR := Lib.hid hr
  have HC := Lib.hid hc
  have HCN := Lib.hid hcn
  have HL := Lib.hid hl
  clear hr hl hc hcn
  go_enter Try.func114, Try.ntmps114
  go_wp2_with fail
  go_loopw [9] (fun i wr => ∃ k : Nat, k ≤ n ∧ i = .int .i64 k ∧ (rs.take k).all (fun r => okRow r.cs) = true ∧ Below w.heap.size w wr) (fun i _ => n - (intOf i).toNat)
  case atStart => exact ⟨0, Nat.zero_le _, rfl, by simp, Below.refl _ _⟩
  case round =>
    obtain ⟨k, hk, rfl, ha, hb⟩ := hrel
    have HA := Lib.hid ha
    have HB := Lib.hid hb
    have hz : w.heap.size ≤ wr.heap.size := hb.size
    clear ha hb
    by_cases hlt : k < n
    · have hlf : k < rs.length := by rw [HL.out]; exact hlt
      obtain ⟨b, o, rfl, hB, hc⟩ := (HR.out.below (Nat.le_refl _) HB.out).at_ hlf
      have HRD := Lib.hid ((HC.out _ (List.getElem_mem hlf)).below (Nat.le_refl _) HB.out)
      have hrl := HCN.out _ (List.getElem_mem hlf)
      have HNO := Lib.hid (fun h => back_no hlf h)
      have HNX := Lib.hid (fun h => back_next hlf HA.out h)
      generalize rs[k].A = x1 at *
      generalize rs[k].c = x3 at *
      generalize rs[k].cs = zs at *
      obtain ⟨x2, hx2⟩ : ∃ x, x = zs.length := ⟨_, rfl⟩
      rw [← hx2] at hc hrl
      have HX2 := Lib.hid hx2
      clear hx2
      by_cases h1 : 1 ≤ x2
      · by_cases h2 : x2 ≤ 120
        · have HAR := Lib.hid (fun W (h : Below wr.heap.size wr W) => areCells_any x1 x2 x3 zs W ((HRD.out.more hz).below (Nat.le_refl _) h |>.more h.size) HX2.out.symm (by omega))
          cases hq : zs.all okC
          · have N := Lib.hid (HNO.out (by unfold okRow; rw [hq, Bool.and_false]))
            have HQ := Lib.hid hq
            clear HNO HNX hq
            go_wp2_with fail
            refine (HAR.out _ ?_).mono ?_
            · exact ((Below.refl wr.heap.size wr).alloc (Nat.le_refl _) _)
            rintro e v1 ⟨rfl, hb1⟩
            rw [HQ.out]
            have HB1 := Lib.hid (HB.out.trans (((Below.refl wr.heap.size wr).alloc (Nat.le_refl _) _ |>.trans (hb1.mono (by simp))).mono hz))
            clear hb1
            go_wp2_with fail
            go_ret
            exact ⟨Attr.rt_bool (by rw [N.out]; rfl), HB1.out⟩
          · have N := Lib.hid (HNX.out (by unfold okRow; rw [hq, ← HX2.out, Bool.and_true]; exact decide_eq_true ⟨h1, h2⟩))
            have HQ := Lib.hid hq
            clear HNO HNX hq
            go_wp2_with fail
            refine (HAR.out _ ?_).mono ?_
            · exact ((Below.refl wr.heap.size wr).alloc (Nat.le_refl _) _)
            rintro e v1 ⟨rfl, hb1⟩
            rw [HQ.out]
            have HB1 := Lib.hid (HB.out.trans (((Below.refl wr.heap.size wr).alloc (Nat.le_refl _) _ |>.trans (hb1.mono (by simp))).mono hz))
            clear hb1
            go_wp2_with fail
            exact ⟨⟨k + 1, by omega, by go_num, N.out, HB1.out⟩, by simp [intOf]; omega⟩
        · have N := Lib.hid (HNO.out (by unfold okRow; rw [← HX2.out, decide_eq_false (fun h => h2 h.2), Bool.false_and]))
          clear HNO HNX
          go_wp2_with fail
          go_ret
          exact ⟨Attr.rt_bool (by rw [N.out]; rfl), HB.out.alloc hz _⟩
      · have N := Lib.hid (HNO.out (by unfold okRow; rw [← HX2.out, decide_eq_false (fun h => h1 h.1), Bool.false_and]))
        clear HNO HNX
        go_wp2_with fail
        go_ret
        exact ⟨Attr.rt_bool (by rw [N.out]; rfl), HB.out.alloc hz _⟩
    · obtain rfl : n = k := by omega
      have HF := Lib.hid (show rs.all (fun r => okRow r.cs) = true by have := HA.out; rwa [← HL.out, List.take_length] at this)
      go_wp2_with fail
      go_ret
      exact ⟨Attr.rt_bool (by rw [HF.out, Bool.true_and]), HB.out⟩
end Go.Proofs.Ythlpchojlddnbaa.Sc
namespace Go.Proofs.Ythlpchojlddnbaa.Sc
open Go.RowKit Go.Proofs.Ythlpchojlddnbaa.Bytes Go.Proofs.Ythlpchojlddnbaa.Rows_ Go.Proofs.Ythlpchojlddnbaa.RowK Go.Proofs.Ythlpchojlddnbaa.Gr Go.Proofs.Ythlpchojlddnbaa.DOk Go.Proofs.Ythlpchojlddnbaa.Opq Go.Proofs.Ythlpchojlddnbaa.Attr
set_option linter.unusedVariables false
attribute [local go_sem ↓] Sc.exec_storeS Sc.exec_loadS
attribute [local go_sem] blkOf_ptr isHead_ptr aggN_agg setRow_alloc rowZ_at rowZ_past scrA_size one_scr rowOf_alloc_at rowOf_alloc_past
attribute [local go_sem] scr_at0 scr_at1 scr_at2 scr_at3 scr_at4 scr_at5 scr_at6 scr_at7 scr_at8 scr_at9 scr_at10 scr_at11 scr_at12 scr_at13 scr_at14 scr_at15 scr_at16 scr_at17 scr_at18 scr_at19 scr_at20 scr_at21 scr_at22 scr_at23 scr_at24 scr_at25 scr_at26 scr_at27 scr_at28 scr_at29 scr_at30
def gridsB (d : ScrD) : Bool := hasS d.mw d.mh d.w d.h && (hasS d.aw d.ah d.w d.h && (okG d.mw d.mh d.M && okG d.aw d.ah d.A))
theorem gridsB_iff {d : ScrD} : gridsB d = true ↔ C1 d := by
  unfold gridsB C1 hasS
  simp only [Bool.and_eq_true, decide_eq_true_eq]
  constructor
  · rintro ⟨⟨a, b⟩, ⟨c, e⟩, f, g⟩; exact ⟨f, g, a, b, c, e⟩
  · rintro ⟨f, g, a, b, c, e⟩; exact ⟨⟨a, b⟩, ⟨c, e⟩, f, g⟩
theorem gb1 {d : ScrD} (h : hasS d.mw d.mh d.w d.h = false) : gridsB d = false := by unfold gridsB; rw [h]; rfl
theorem gb2 {d : ScrD} (h : hasS d.aw d.ah d.w d.h = false) : gridsB d = false := by unfold gridsB; rw [h]; cases hasS d.mw d.mh d.w d.h <;> rfl
theorem gb3 {d : ScrD} (h : okG d.mw d.mh d.M = false) : gridsB d = false := by unfold gridsB; rw [h]; cases hasS d.mw d.mh d.w d.h <;> cases hasS d.aw d.ah d.w d.h <;> rfl
theorem gb4 {d : ScrD} (h : okG d.aw d.ah d.A = false) : gridsB d = false := by unfold gridsB; rw [h]; cases hasS d.mw d.mh d.w d.h <;> cases hasS d.aw d.ah d.w d.h <;> cases okG d.mw d.mh d.M <;> rfl
theorem gb5 {d : ScrD} (h1 : hasS d.mw d.mh d.w d.h = true) (h2 : hasS d.aw d.ah d.w d.h = true) (h3 : okG d.mw d.mh d.M = true) (h4 : okG d.aw d.ah d.A = true) : gridsB d = true := by unfold gridsB; rw [h1, h2, h3, h4]; rfl
def backB (d : ScrD) : Bool := d.rows.all okRow && decide ((d.rows.length : Int) ≤ d.lim)
theorem ob1 {d : ScrD} (h : gridsB d = false) : okD d = false := okD_f (fun h' : OkP d => by have := gridsB_iff.2 h'.1; rw [h] at this; cases this)
theorem ob2 {d : ScrD} (h : inB d.mw d.mh d.x d.y = false) : okD d = false := okD_f (fun h' : OkP d => of_decide_eq_false h (by
  obtain ⟨⟨_, _, e1, e2, _⟩, ⟨a, b, c, e, _⟩, _⟩ := h'; rw [e1, e2]; exact ⟨a, b, c, e⟩))
theorem ob3 {d : ScrD} (h : inB d.mw d.mh d.sx d.sy = false) : okD d = false := okD_f (fun h' : OkP d => of_decide_eq_false h (by
  obtain ⟨⟨_, _, e1, e2, _⟩, ⟨_, _, _, _, _, a, b, c, e, _⟩, _⟩ := h'; rw [e1, e2]; exact ⟨a, b, c, e⟩))
theorem ob4 {d : ScrD} (h1 : d.wrap = true) (h2 : ¬ d.x = d.w - 1) : okD d = false := okD_f (fun h' : OkP d => h2 (h'.2.1.2.2.2.2.1 h1))
theorem ob5 {d : ScrD} (h : okA d.fg d.bg = false) : okD d = false := okD_f (fun h' : OkP d => by have := h'.2.1.2.2.2.2.2.2.2.2.2.1; rw [h] at this; cases this)
theorem ob6 {d : ScrD} (h : okA d.sfg d.sbg = false) : okD d = false := okD_f (fun h' : OkP d => by have := h'.2.1.2.2.2.2.2.2.2.2.2.2; rw [h] at this; cases this)
theorem ob7 {d : ScrD} (h : regB d.top d.bot d.h = false) : okD d = false := okD_f (fun h' : OkP d => of_decide_eq_false h (by
  obtain ⟨_, _, ⟨a, b, c, e, _⟩, _⟩ := h'; exact ⟨a, b, c, e⟩))
theorem ob8 {d : ScrD} (h : okT (-1) d.w d.tabs = false) : okD d = false := okD_f (fun h' : OkP d => by have := h'.2.2.2.1; rw [h] at this; cases this)
theorem ob9 {d : ScrD} (h : okL d.lim = false) : okD d = false := okD_f (fun h' : OkP d => of_decide_eq_false h (by
  obtain ⟨_, _, ⟨_, _, _, _, a, b, _⟩, _⟩ := h'; exact ⟨a, b⟩))
theorem ob10 {d : ScrD} (h : backB d = false) : okD d = false := okD_f (fun h' : OkP d => by
  obtain ⟨_, _, ⟨_, _, _, _, _, _, a⟩, _, b⟩ := h'
  unfold backB at h; rw [b, decide_eq_true a] at h; cases h)
theorem ob11 {d : ScrD} (h1 : gridsB d = true) (h2 : inB d.mw d.mh d.x d.y = true) (h3 : inB d.mw d.mh d.sx d.sy = true) (h4 : d.wrap = true → d.x = d.w - 1) (h5 : okA d.fg d.bg = true) (h6 : okA d.sfg d.sbg = true)
    (h7 : regB d.top d.bot d.h = true) (h8 : okT (-1) d.w d.tabs = true) (h9 : okL d.lim = true) (h10 : backB d = true) : okD d = true := okD_t (by
  have c1 := gridsB_iff.1 h1
  have e1 := c1.2.2.1
  have e2 := c1.2.2.2.1
  obtain ⟨a1, a2, a3, a4⟩ := inB_t h2
  obtain ⟨b1, b2, b3, b4⟩ := inB_t h3
  obtain ⟨r1, r2, r3, r4⟩ : _ := of_decide_eq_true h7
  obtain ⟨l1, l2⟩ : _ := of_decide_eq_true h9
  unfold backB at h10
  rw [Bool.and_eq_true] at h10
  exact ⟨c1, ⟨a1, by omega, a3, by omega, h4, b1, by omega, b3, by omega, h5, h6⟩, ⟨r1, r2, r3, r4, l1, l2, of_decide_eq_true h10.2⟩, h8, h10.1⟩)
theorem back_of (s : ScrS) : backB s.data = (s.rows.all (fun r => okRow r.cs) && decide ((s.rows.length : Int) ≤ s.lim)) := by
  show ((s.rows.map (·.cs)).all okRow && decide (((s.rows.map (·.cs)).length : Int) ≤ s.lim)) = _
  rw [List.all_map, List.length_map]; rfl
theorem rows_len {s : ScrS} (hn : szS s ≤ 1048576) : ∀ r ∈ s.rows, r.cs.length ≤ 1099511627776 := fun r hr => by have := tot_mem hr; unfold szS at hn; omega
set_option maxRecDepth 100000 in
set_option maxHeartbeats 16000000 in
theorem hasGrids_any (s : ScrS) (w : World) (hr : RdS w w.heap.size s) (hn : szS s ≤ 1048576) : Calls Try.prog 109 #[.agg (scrA s)] w fun e w' => e = .returned (.bool (gridsB s.data)) ∧ Below w.heap.size w w' := by
  have H0 := Lib.hid ((Below.refl w.heap.size w).alloc (Nat.le_refl _) (.cells (scrA s) 53))
  have B0 := Lib.hid (RowB.new w (scrA s) 53)
  have hx0 := B0.out.cell
  obtain ⟨q1, hq1⟩ : ∃ q, q = hasS s.mw s.mh s.w s.h := ⟨_, rfl⟩
  have Q1 := Lib.hid (fun W (h : Below w.heap.size w W) => hasSize_any s.mw s.mh s.M.A s.M.cs.length s.M.c s.w s.h W)
  have K1 := Lib.hid (show hasS s.data.mw s.data.mh s.data.w s.data.h = q1 from hq1.symm)
  rw [← hq1] at Q1
  clear hq1
  obtain ⟨q2, hq2⟩ : ∃ q, q = hasS s.aw s.ah s.w s.h := ⟨_, rfl⟩
  have Q2 := Lib.hid (fun W (h : Below w.heap.size w W) => hasSize_any s.aw s.ah s.A.A s.A.cs.length s.A.c s.w s.h W)
  have K2 := Lib.hid (show hasS s.data.aw s.data.ah s.data.w s.data.h = q2 from hq2.symm)
  rw [← hq2] at Q2
  clear hq2
  obtain ⟨q3, hq3⟩ : ∃ q, q = okG s.mw s.mh s.M.cs := ⟨_, rfl⟩
  have Q3 := Lib.hid (fun W (h : Below w.heap.size w W) => impl_GridOk_any s.mw s.mh s.M.A s.M.cs.length s.M.c s.M.cs W ((hr.M.below (Nat.le_refl _) h).more h.size) rfl (by unfold szS at hn; omega))
  have K3 := Lib.hid (show okG s.data.mw s.data.mh s.data.M = q3 from hq3.symm)
  rw [← hq3] at Q3
  clear hq3
  obtain ⟨q4, hq4⟩ : ∃ q, q = okG s.aw s.ah s.A.cs := ⟨_, rfl⟩
  have Q4 := Lib.hid (fun W (h : Below w.heap.size w W) => impl_GridOk_any s.aw s.ah s.A.A s.A.cs.length s.A.c s.A.cs W ((hr.A.below (Nat.le_refl _) h).more h.size) rfl (by unfold szS at hn; omega))
  have K4 := Lib.hid (show okG s.data.aw s.data.ah s.data.A = q4 from hq4.symm)
  rw [← hq4] at Q4
  clear hq4
  clear hr hn
  go_enter Try.func109, Try.ntmps109
  go_wp2_with fail
  (with_reducible refine (Q1.out _ H0.out).mono ?_)
  rintro e v1 ⟨rfl, hb⟩
  have B1 := Lib.hid (B0.out.below hb B0.out.lt)
  have H1 := Lib.hid (H0.out.trans (hb.mono H0.out.size))
  have hx1 := B1.out.cell
  have row1 : rowOf v1 w.heap.size = scrA s := B1.out.row
  have z1 : w.heap.size < v1.heap.size := B1.out.lt
  clear hb
  cases hq1 : q1
  · have N := Lib.hid (gb1 (K1.out.trans hq1))
    subst hq1
    go_wp2_with fail
    go_ret
    exact ⟨Attr.rt_bool N.out.symm, H1.out⟩
  have T1 := Lib.hid (K1.out.trans hq1)
  subst hq1
  go_wp2_with fail
  (with_reducible refine (Q2.out _ H1.out).mono ?_)
  rintro e v2 ⟨rfl, hb⟩
  have B2 := Lib.hid (B1.out.below hb B1.out.lt)
  have H2 := Lib.hid (H1.out.trans (hb.mono H1.out.size))
  have hx2 := B2.out.cell
  have row2 : rowOf v2 w.heap.size = scrA s := B2.out.row
  have z2 : w.heap.size < v2.heap.size := B2.out.lt
  clear hb
  cases hq2 : q2
  · have N := Lib.hid (gb2 (K2.out.trans hq2))
    subst hq2
    go_wp2_with fail
    go_ret
    exact ⟨Attr.rt_bool N.out.symm, H2.out⟩
  have T2 := Lib.hid (K2.out.trans hq2)
  subst hq2
  go_wp2_with fail
  (with_reducible refine (Q3.out _ H2.out).mono ?_)
  rintro e v3 ⟨rfl, hb⟩
  have B3 := Lib.hid (B2.out.below hb B2.out.lt)
  have H3 := Lib.hid (H2.out.trans (hb.mono H2.out.size))
  have hx3 := B3.out.cell
  have row3 : rowOf v3 w.heap.size = scrA s := B3.out.row
  have z3 : w.heap.size < v3.heap.size := B3.out.lt
  clear hb
  cases hq3 : q3
  · have N := Lib.hid (gb3 (K3.out.trans hq3))
    subst hq3
    go_wp2_with fail
    go_ret
    exact ⟨Attr.rt_bool N.out.symm, H3.out⟩
  have T3 := Lib.hid (K3.out.trans hq3)
  subst hq3
  go_wp2_with fail
  (with_reducible refine (Q4.out _ H3.out).mono ?_)
  rintro e v4 ⟨rfl, hb⟩
  have B4 := Lib.hid (B3.out.below hb B3.out.lt)
  have H4 := Lib.hid (H3.out.trans (hb.mono H3.out.size))
  have hx4 := B4.out.cell
  have row4 : rowOf v4 w.heap.size = scrA s := B4.out.row
  have z4 : w.heap.size < v4.heap.size := B4.out.lt
  clear hb
  cases hq4 : q4
  · have N := Lib.hid (gb4 (K4.out.trans hq4))
    subst hq4
    go_wp2_with fail
    go_ret
    exact ⟨Attr.rt_bool N.out.symm, H4.out⟩
  have T4 := Lib.hid (K4.out.trans hq4)
  subst hq4
  have N := Lib.hid (gb5 T1.out T2.out T3.out T4.out)
  go_wp2_with fail
  go_ret
  exact ⟨Attr.rt_bool N.out.symm, H4.out⟩
end Go.Proofs.Ythlpchojlddnbaa.Sc
namespace Go.Proofs.Ythlpchojlddnbaa.Sc
open Go.RowKit Go.Proofs.Ythlpchojlddnbaa.Bytes Go.Proofs.Ythlpchojlddnbaa.Rows_ Go.Proofs.Ythlpchojlddnbaa.RowK Go.Proofs.Ythlpchojlddnbaa.Gr Go.Proofs.Ythlpchojlddnbaa.DOk Go.Proofs.Ythlpchojlddnbaa.Opq Go.Proofs.Ythlpchojlddnbaa.Attr
set_option linter.unusedVariables false
attribute [local go_sem ↓] Sc.exec_storeS Sc.exec_loadS
attribute [local go_sem] blkOf_ptr isHead_ptr aggN_agg setRow_alloc rowZ_at rowZ_past scrA_size one_scr rowOf_alloc_at rowOf_alloc_past
attribute [local go_sem] scr_at0 scr_at1 scr_at2 scr_at3 scr_at4 scr_at5 scr_at6 scr_at7 scr_at8 scr_at9 scr_at10 scr_at11 scr_at12 scr_at13 scr_at14 scr_at15 scr_at16 scr_at17 scr_at18 scr_at19 scr_at20 scr_at21 scr_at22 scr_at23 scr_at24 scr_at25 scr_at26 scr_at27 scr_at28 scr_at29 scr_at30
attribute [local go_sem] Chop.at_same Chop.at_ne Chop.getD_same Chop.getD_ne
theorem okD_eq {d : ScrD} {q1 q2 q3 q4 q5 q6 q7 q8 q9 q10 : Bool} (h1 : gridsB d = q1) (h2 : inB d.mw d.mh d.x d.y = q2) (h3 : inB d.mw d.mh d.sx d.sy = q3) (h4 : (!d.wrap || decide (d.x = d.w - 1)) = q4) (h5 : okA d.fg d.bg = q5) (h6 : okA d.sfg d.sbg = q6)
    (h7 : regB d.top d.bot d.h = q7) (h8 : okT (-1) d.w d.tabs = q8) (h9 : okL d.lim = q9) (h10 : backB d = q10) : (((((((((q1 && q2) && q3) && q4) && q5) && q6) && q7) && q8) && q9) && q10) = okD d := by
  cases q1
  · rw [ob1 h1]; simp
  cases q2
  · rw [ob2 h2]; simp
  cases q3
  · rw [ob3 h3]; simp
  cases q4
  · rw [ob4 (d := d) (by cases hw : d.wrap
                         · rw [hw] at h4; cases h4
                         · rfl) (by intro hx; rw [decide_eq_true hx, Bool.or_true] at h4; cases h4)]; simp
  cases q5
  · rw [ob5 h5]; simp
  cases q6
  · rw [ob6 h6]; simp
  cases q7
  · rw [ob7 h7]; simp
  cases q8
  · rw [ob8 h8]; simp
  cases q9
  · rw [ob9 h9]; simp
  cases q10
  · rw [ob10 h10]; simp
  exact (ob11 h1 h2 h3 (fun hw => by rw [hw] at h4; exact of_decide_eq_true h4) h5 h6 h7 h8 h9 h10).symm
theorem grids_w {s : ScrS} (h : gridsB s.data = true) : 1 ≤ s.w ∧ s.w ≤ 120 := by
  have c1 := gridsB_iff.1 h
  have h1 := (of_okG c1.1).1
  have h2 := c1.2.2.1
  unfold ScrS.data at h1 h2
  simp only [] at h1 h2
  omega
theorem and_l {a b : Bool} (h : (a && b) = true) : a = true := by cases a; cases h; rfl
set_option maxRecDepth 100000 in
set_option maxHeartbeats 16000000 in
theorem impl_ScrOk_any (s : ScrS) (w : World) (hr : RdS w w.heap.size s) (hn : szS s ≤ 1048576) : Calls Try.prog 84 #[.agg (scrA s)] w fun e w' => e = .returned (.bool (okD s.data)) ∧ Below w.heap.size w w' := by
  have H0 := Lib.hid ((Below.refl w.heap.size w).alloc (Nat.le_refl _) (.cells (scrA s) 53))
  have B0 := Lib.hid (RowB.new w (scrA s) 53)
  have row0 := B0.out.row
  obtain ⟨q1, hq1⟩ : ∃ q, q = gridsB s.data := ⟨_, rfl⟩
  have Q1 := Lib.hid (fun W (h : Below w.heap.size w W) => hasGrids_any s W ((hr.below (Nat.le_refl _) h).more h.size) hn)
  have K1 := Lib.hid (show gridsB s.data = q1 from hq1.symm)
  rw [← hq1] at Q1
  clear hq1
  obtain ⟨q2, hq2⟩ : ∃ q, q = inB s.mw s.mh s.x s.y := ⟨_, rfl⟩
  have Q2 := Lib.hid (fun W (h : Below w.heap.size w W) => hasCell_any s.mw s.mh s.M.A s.M.cs.length s.M.c s.x s.y W)
  have K2 := Lib.hid (show inB s.data.mw s.data.mh s.data.x s.data.y = q2 from hq2.symm)
  rw [← hq2] at Q2
  clear hq2
  obtain ⟨q3, hq3⟩ : ∃ q, q = inB s.mw s.mh s.sx s.sy := ⟨_, rfl⟩
  have Q3 := Lib.hid (fun W (h : Below w.heap.size w W) => hasCell_any s.mw s.mh s.M.A s.M.cs.length s.M.c s.sx s.sy W)
  have K3 := Lib.hid (show inB s.data.mw s.data.mh s.data.sx s.data.sy = q3 from hq3.symm)
  rw [← hq3] at Q3
  clear hq3
  obtain ⟨q4, hq4⟩ : ∃ q, q = (!s.wrap || decide (s.x = s.w - 1)) := ⟨_, rfl⟩
  have K4 := Lib.hid (show (!s.data.wrap || decide (s.data.x = s.data.w - 1)) = q4 from hq4.symm)
  have HQ4 := Lib.hid hq4
  clear hq4
  obtain ⟨q5, hq5⟩ : ∃ q, q = okA s.fg s.bg := ⟨_, rfl⟩
  have Q5 := Lib.hid (fun W (h : Below w.heap.size w W) => impl_AttrOk_any s.fg s.bg s.b s.u s.t W)
  have K5 := Lib.hid (show okA s.data.fg s.data.bg = q5 from hq5.symm)
  rw [← hq5] at Q5
  clear hq5
  obtain ⟨q6, hq6⟩ : ∃ q, q = okA s.sfg s.sbg := ⟨_, rfl⟩
  have Q6 := Lib.hid (fun W (h : Below w.heap.size w W) => impl_AttrOk_any s.sfg s.sbg s.sb s.su s.st W)
  have K6 := Lib.hid (show okA s.data.sfg s.data.sbg = q6 from hq6.symm)
  rw [← hq6] at Q6
  clear hq6
  obtain ⟨q7, hq7⟩ : ∃ q, q = regB s.top s.bot s.h := ⟨_, rfl⟩
  have Q7 := Lib.hid (fun W (h : Below w.heap.size w W) => isRegion_any s.top s.bot s.h W)
  have K7 := Lib.hid (show regB s.data.top s.data.bot s.data.h = q7 from hq7.symm)
  rw [← hq7] at Q7
  clear hq7
  obtain ⟨q8, hq8⟩ : ∃ q, q = okT (-1) s.w s.tabs := ⟨_, rfl⟩
  have Q8 := Lib.hid (fun W (h : Below w.heap.size w W) (hw8 : s.w ≤ 120) => areAscending_any s.tA s.tabs.length s.tk s.tabs s.w W ((hr.t.below (Nat.le_refl _) h).more h.size) rfl (by unfold szS at hn; omega) (by omega))
  have K8 := Lib.hid (show okT (-1) s.data.w s.data.tabs = q8 from hq8.symm)
  rw [← hq8] at Q8
  clear hq8
  obtain ⟨q9, hq9⟩ : ∃ q, q = okL s.lim := ⟨_, rfl⟩
  have Q9 := Lib.hid (fun W (h : Below w.heap.size w W) => isLimit_any s.lim W)
  have K9 := Lib.hid (show okL s.data.lim = q9 from hq9.symm)
  rw [← hq9] at Q9
  clear hq9
  obtain ⟨q10, hq10⟩ : ∃ q, q = (s.rows.all (fun r => okRow r.cs) && decide ((s.rows.length : Int) ≤ s.lim)) := ⟨_, rfl⟩
  have Q10 := Lib.hid (fun W (h : Below w.heap.size w W) => isBack_any s.bA s.rows.length s.bk s.rows s.lim W ((hr.r.below (Nat.le_refl _) h).more h.size) ((hr.rc.below (Nat.le_refl _) h).more h.size) rfl (by unfold szS at hn; omega) (rows_len hn))
  have K10 := Lib.hid (show backB s.data = q10 from (back_of s).trans hq10.symm)
  rw [← hq10] at Q10
  clear hq10
  have HW := Lib.hid (show q1 = true → 1 ≤ s.w ∧ s.w ≤ 120 from fun h => grids_w (K1.out.trans h))
  have HE := Lib.hid (okD_eq K1.out K2.out K3.out K4.out K5.out K6.out K7.out K8.out K9.out K10.out)
  clear K1 K2 K3 K4 K5 K6 K7 K8 K9 K10
  clear hr hn
  go_enter Try.func84, Try.ntmps84
  go_upto_region 1 with fail
  refine wp_region_lit ?_
  refine Chop.forget (fun T hT => ?_)
  have hsz : T.size = 74 := by rw [hT]; rfl
  have f1 : T[1]? = some (.pointer (some ⟨w.heap.size, 0, none⟩)) := by rw [hT]; rfl
  clear hT
  have g1 := Chop.getD_of f1
  have e1 := Chop.elem_of f1 (by rw [hsz]; decide)
  refine Chop.chop_rel 3 (fun a w' => ∃ T : Array Value, a = ⟨T, []⟩ ∧ T.size = 74 ∧ T[1]? = some (.pointer (some ⟨w.heap.size, 0, none⟩)) ∧ T[5]? = some (.bool q1) ∧ RowB w' w.heap.size (scrA s) ∧ Below w.heap.size w w') (fun Q0 hQ0 => ?_) ?_
  · have HQ0 := Lib.hid hQ0
    clear hQ0
    change wpList _ _ _ (_ :: _ :: _ :: []) _ _
    go_wp2_with (go_at_call 109; (with_reducible refine (Q1.out _ H0.out).mono ?_); rintro e vn ⟨rfl, hbn⟩; have Bn := Lib.hid (B0.out.below hbn B0.out.lt); have Hn := Lib.hid (H0.out.trans (hbn.mono H0.out.size)); clear hbn)
    all_goals refine HQ0.out _ _ ⟨_, rfl, by simp [hsz], by simp [f1], Chop.at_same _ _ _ (by simp [hsz]), by first | exact Bn.out | exact B0.out, by first | exact Hn.out | exact H0.out⟩
  rintro a w' ⟨T, rfl, hsz, f1, fb, hB, hH⟩
  clear row0
  obtain ⟨v1, rfl⟩ : ∃ v : World, v = w' := ⟨_, rfl⟩
  have B1 := Lib.hid hB
  have H1 := Lib.hid hH
  have hx1 := hB.cell
  have row1 := hB.row
  have z1 : w.heap.size < v1.heap.size := hB.lt
  clear hB hH
  have gb := Chop.getD_of fb
  have g1 := Chop.getD_of f1
  have e1 := Chop.elem_of f1 (by rw [hsz]; decide)
  have eb := Chop.elem_of fb (by rw [hsz]; decide)
  refine Chop.chop_rel 9 (fun a w' => ∃ T : Array Value, a = ⟨T, []⟩ ∧ T.size = 74 ∧ T[1]? = some (.pointer (some ⟨w.heap.size, 0, none⟩)) ∧ T[14]? = some (.bool (q1 && q2)) ∧ RowB w' w.heap.size (scrA s) ∧ Below w.heap.size w w') (fun Q0 hQ0 => ?_) ?_
  · have HQ0 := Lib.hid hQ0
    clear hQ0
    change wpList _ _ _ (_ :: _ :: _ :: _ :: _ :: _ :: _ :: _ :: _ :: []) _ _
    generalize q1 = bb at *
    cases bb
    · go_wp2_with fail
      all_goals refine HQ0.out _ _ ⟨_, rfl, by simp [hsz], by simp [f1], Chop.at_same _ _ _ (by simp [hsz]), by first | exact Bn.out | exact B1.out, by first | exact Hn.out | exact H1.out⟩
    · go_wp2_with (go_at_call 110; (with_reducible refine (Q2.out _ H1.out).mono ?_); rintro e vn ⟨rfl, hbn⟩; have Bn := Lib.hid (B1.out.below hbn B1.out.lt); have Hn := Lib.hid (H1.out.trans (hbn.mono H1.out.size)); clear hbn)
      all_goals refine HQ0.out _ _ ⟨_, rfl, by simp [hsz], by simp [f1], Chop.at_same _ _ _ (by simp [hsz]), by first | exact Bn.out | exact B1.out, by first | exact Hn.out | exact H1.out⟩
  rintro a w' ⟨T, rfl, hsz, f1, fb, hB, hH⟩
  clear hx1 row1 z1
  obtain ⟨v2, rfl⟩ : ∃ v : World, v = w' := ⟨_, rfl⟩
  have B2 := Lib.hid hB
  have H2 := Lib.hid hH
  have hx2 := hB.cell
  have row2 := hB.row
  have z2 : w.heap.size < v2.heap.size := hB.lt
  clear hB hH
  have gb := Chop.getD_of fb
  have g1 := Chop.getD_of f1
  have e1 := Chop.elem_of f1 (by rw [hsz]; decide)
  have eb := Chop.elem_of fb (by rw [hsz]; decide)
  refine Chop.chop_rel 9 (fun a w' => ∃ T : Array Value, a = ⟨T, []⟩ ∧ T.size = 74 ∧ T[1]? = some (.pointer (some ⟨w.heap.size, 0, none⟩)) ∧ T[23]? = some (.bool ((q1 && q2) && q3)) ∧ RowB w' w.heap.size (scrA s) ∧ Below w.heap.size w w') (fun Q0 hQ0 => ?_) ?_
  · have HQ0 := Lib.hid hQ0
    clear hQ0
    change wpList _ _ _ (_ :: _ :: _ :: _ :: _ :: _ :: _ :: _ :: _ :: []) _ _
    generalize (q1 && q2) = bb at *
    cases bb
    · go_wp2_with fail
      all_goals refine HQ0.out _ _ ⟨_, rfl, by simp [hsz], by simp [f1], Chop.at_same _ _ _ (by simp [hsz]), by first | exact Bn.out | exact B2.out, by first | exact Hn.out | exact H2.out⟩
    · go_wp2_with (go_at_call 110; (with_reducible refine (Q3.out _ H2.out).mono ?_); rintro e vn ⟨rfl, hbn⟩; have Bn := Lib.hid (B2.out.below hbn B2.out.lt); have Hn := Lib.hid (H2.out.trans (hbn.mono H2.out.size)); clear hbn)
      all_goals refine HQ0.out _ _ ⟨_, rfl, by simp [hsz], by simp [f1], Chop.at_same _ _ _ (by simp [hsz]), by first | exact Bn.out | exact B2.out, by first | exact Hn.out | exact H2.out⟩
  rintro a w' ⟨T, rfl, hsz, f1, fb, hB, hH⟩
  clear hx2 row2 z2
  obtain ⟨v3, rfl⟩ : ∃ v : World, v = w' := ⟨_, rfl⟩
  have B3 := Lib.hid hB
  have H3 := Lib.hid hH
  have hx3 := hB.cell
  have row3 := hB.row
  have z3 : w.heap.size < v3.heap.size := hB.lt
  clear hB hH
  have gb := Chop.getD_of fb
  have g1 := Chop.getD_of f1
  have e1 := Chop.elem_of f1 (by rw [hsz]; decide)
  have eb := Chop.elem_of fb (by rw [hsz]; decide)
  refine Chop.chop_rel 13 (fun a w' => ∃ T : Array Value, a = ⟨T, []⟩ ∧ T.size = 74 ∧ T[1]? = some (.pointer (some ⟨w.heap.size, 0, none⟩)) ∧ T[36]? = some (.bool (((q1 && q2) && q3) && q4)) ∧ RowB w' w.heap.size (scrA s) ∧ Below w.heap.size w w') (fun Q0 hQ0 => ?_) ?_
  · have HQ0 := Lib.hid hQ0
    clear hQ0
    change wpList _ _ _ (_ :: _ :: _ :: _ :: _ :: _ :: _ :: _ :: _ :: _ :: _ :: _ :: _ :: []) _ _
    have hwq : ((q1 && q2) && q3) = true → 1 ≤ s.w ∧ s.w ≤ 120 := fun h => HW.out (and_l (and_l h))
    generalize ((q1 && q2) && q3) = bb at *
    cases bb
    · go_wp2_with fail
      all_goals refine HQ0.out _ _ ⟨_, rfl, by simp [hsz], by simp [f1], Chop.at_same _ _ _ (by simp [hsz]), by first | exact Bn.out | exact B3.out, by first | exact Hn.out | exact H3.out⟩
    · obtain ⟨hw1, hw2⟩ := hwq rfl
      cases hwr : s.wrap
      · have e4 : q4 = true := by rw [HQ4.out, hwr]; rfl
        have E4 := Lib.hid e4
        clear e4
        go_wp2_with fail
        all_goals refine HQ0.out _ _ ⟨_, rfl, by simp [hsz], by simp [f1], (by rw [E4.out]; exact Chop.at_same _ _ _ (by simp [hsz])), by first | exact Bn.out | exact B3.out, by first | exact Hn.out | exact H3.out⟩
      · have e4 : q4 = decide (s.x = s.w - 1) := by rw [HQ4.out, hwr]; rfl
        have E4 := Lib.hid e4
        clear e4
        go_wp2_with fail
        all_goals refine HQ0.out _ _ ⟨_, rfl, by simp [hsz], by simp [f1], (by rw [E4.out]; exact Chop.at_same _ _ _ (by simp [hsz])), by first | exact Bn.out | exact B3.out, by first | exact Hn.out | exact H3.out⟩
  rintro a w' ⟨T, rfl, hsz, f1, fb, hB, hH⟩
  clear hx3 row3 z3
  obtain ⟨v4, rfl⟩ : ∃ v : World, v = w' := ⟨_, rfl⟩
  have B4 := Lib.hid hB
  have H4 := Lib.hid hH
  have hx4 := hB.cell
  have row4 := hB.row
  have z4 : w.heap.size < v4.heap.size := hB.lt
  clear hB hH
  have gb := Chop.getD_of fb
  have g1 := Chop.getD_of f1
  have e1 := Chop.elem_of f1 (by rw [hsz]; decide)
  have eb := Chop.elem_of fb (by rw [hsz]; decide)
  refine Chop.chop_rel 5 (fun a w' => ∃ T : Array Value, a = ⟨T, []⟩ ∧ T.size = 74 ∧ T[1]? = some (.pointer (some ⟨w.heap.size, 0, none⟩)) ∧ T[41]? = some (.bool ((((q1 && q2) && q3) && q4) && q5)) ∧ RowB w' w.heap.size (scrA s) ∧ Below w.heap.size w w') (fun Q0 hQ0 => ?_) ?_
  · have HQ0 := Lib.hid hQ0
    clear hQ0
    change wpList _ _ _ (_ :: _ :: _ :: _ :: _ :: []) _ _
    generalize (((q1 && q2) && q3) && q4) = bb at *
    cases bb
    · go_wp2_with fail
      all_goals refine HQ0.out _ _ ⟨_, rfl, by simp [hsz], by simp [f1], Chop.at_same _ _ _ (by simp [hsz]), by first | exact Bn.out | exact B4.out, by first | exact Hn.out | exact H4.out⟩
    · go_wp2_with (go_at_call 92; (with_reducible refine (Q5.out _ H4.out).mono ?_); rintro e vn ⟨rfl, hbn⟩; have Bn := Lib.hid (B4.out.below hbn B4.out.lt); have Hn := Lib.hid (H4.out.trans (hbn.mono H4.out.size)); clear hbn)
      all_goals refine HQ0.out _ _ ⟨_, rfl, by simp [hsz], by simp [f1], Chop.at_same _ _ _ (by simp [hsz]), by first | exact Bn.out | exact B4.out, by first | exact Hn.out | exact H4.out⟩
  rintro a w' ⟨T, rfl, hsz, f1, fb, hB, hH⟩
  clear hx4 row4 z4
  obtain ⟨v5, rfl⟩ : ∃ v : World, v = w' := ⟨_, rfl⟩
  have B5 := Lib.hid hB
  have H5 := Lib.hid hH
  have hx5 := hB.cell
  have row5 := hB.row
  have z5 : w.heap.size < v5.heap.size := hB.lt
  clear hB hH
  have gb := Chop.getD_of fb
  have g1 := Chop.getD_of f1
  have e1 := Chop.elem_of f1 (by rw [hsz]; decide)
  have eb := Chop.elem_of fb (by rw [hsz]; decide)
  refine Chop.chop_rel 5 (fun a w' => ∃ T : Array Value, a = ⟨T, []⟩ ∧ T.size = 74 ∧ T[1]? = some (.pointer (some ⟨w.heap.size, 0, none⟩)) ∧ T[46]? = some (.bool (((((q1 && q2) && q3) && q4) && q5) && q6)) ∧ RowB w' w.heap.size (scrA s) ∧ Below w.heap.size w w') (fun Q0 hQ0 => ?_) ?_
  · have HQ0 := Lib.hid hQ0
    clear hQ0
    change wpList _ _ _ (_ :: _ :: _ :: _ :: _ :: []) _ _
    generalize ((((q1 && q2) && q3) && q4) && q5) = bb at *
    cases bb
    · go_wp2_with fail
      all_goals refine HQ0.out _ _ ⟨_, rfl, by simp [hsz], by simp [f1], Chop.at_same _ _ _ (by simp [hsz]), by first | exact Bn.out | exact B5.out, by first | exact Hn.out | exact H5.out⟩
    · go_wp2_with (go_at_call 92; (with_reducible refine (Q6.out _ H5.out).mono ?_); rintro e vn ⟨rfl, hbn⟩; have Bn := Lib.hid (B5.out.below hbn B5.out.lt); have Hn := Lib.hid (H5.out.trans (hbn.mono H5.out.size)); clear hbn)
      all_goals refine HQ0.out _ _ ⟨_, rfl, by simp [hsz], by simp [f1], Chop.at_same _ _ _ (by simp [hsz]), by first | exact Bn.out | exact B5.out, by first | exact Hn.out | exact H5.out⟩
  rintro a w' ⟨T, rfl, hsz, f1, fb, hB, hH⟩
  clear hx5 row5 z5
  obtain ⟨v6, rfl⟩ : ∃ v : World, v = w' := ⟨_, rfl⟩
  have B6 := Lib.hid hB
  have H6 := Lib.hid hH
  have hx6 := hB.cell
  have row6 := hB.row
  have z6 : w.heap.size < v6.heap.size := hB.lt
  clear hB hH
  have gb := Chop.getD_of fb
  have g1 := Chop.getD_of f1
  have e1 := Chop.elem_of f1 (by rw [hsz]; decide)
  have eb := Chop.elem_of fb (by rw [hsz]; decide)
  refine Chop.chop_rel 9 (fun a w' => ∃ T : Array Value, a = ⟨T, []⟩ ∧ T.size = 74 ∧ T[1]? = some (.pointer (some ⟨w.heap.size, 0, none⟩)) ∧ T[55]? = some (.bool ((((((q1 && q2) && q3) && q4) && q5) && q6) && q7)) ∧ RowB w' w.heap.size (scrA s) ∧ Below w.heap.size w w') (fun Q0 hQ0 => ?_) ?_
  · have HQ0 := Lib.hid hQ0
    clear hQ0
    change wpList _ _ _ (_ :: _ :: _ :: _ :: _ :: _ :: _ :: _ :: _ :: []) _ _
    generalize (((((q1 && q2) && q3) && q4) && q5) && q6) = bb at *
    cases bb
    · go_wp2_with fail
      all_goals refine HQ0.out _ _ ⟨_, rfl, by simp [hsz], by simp [f1], Chop.at_same _ _ _ (by simp [hsz]), by first | exact Bn.out | exact B6.out, by first | exact Hn.out | exact H6.out⟩
    · go_wp2_with (go_at_call 111; (with_reducible refine (Q7.out _ H6.out).mono ?_); rintro e vn ⟨rfl, rfl⟩)
      all_goals refine HQ0.out _ _ ⟨_, rfl, by simp [hsz], by simp [f1], Chop.at_same _ _ _ (by simp [hsz]), by first | exact Bn.out | exact B6.out, by first | exact Hn.out | exact H6.out⟩
  rintro a w' ⟨T, rfl, hsz, f1, fb, hB, hH⟩
  clear hx6 row6 z6
  obtain ⟨v7, rfl⟩ : ∃ v : World, v = w' := ⟨_, rfl⟩
  have B7 := Lib.hid hB
  have H7 := Lib.hid hH
  have hx7 := hB.cell
  have row7 := hB.row
  have z7 : w.heap.size < v7.heap.size := hB.lt
  clear hB hH
  have gb := Chop.getD_of fb
  have g1 := Chop.getD_of f1
  have e1 := Chop.elem_of f1 (by rw [hsz]; decide)
  have eb := Chop.elem_of fb (by rw [hsz]; decide)
  refine Chop.chop_rel 7 (fun a w' => ∃ T : Array Value, a = ⟨T, []⟩ ∧ T.size = 74 ∧ T[1]? = some (.pointer (some ⟨w.heap.size, 0, none⟩)) ∧ T[62]? = some (.bool (((((((q1 && q2) && q3) && q4) && q5) && q6) && q7) && q8)) ∧ RowB w' w.heap.size (scrA s) ∧ Below w.heap.size w w') (fun Q0 hQ0 => ?_) ?_
  · have HQ0 := Lib.hid hQ0
    clear hQ0
    change wpList _ _ _ (_ :: _ :: _ :: _ :: _ :: _ :: _ :: []) _ _
    have HW8 := Lib.hid (show ((((((q1 && q2) && q3) && q4) && q5) && q6) && q7) = true → s.w ≤ 120 from fun h => (HW.out (by revert h; cases q1 <;> simp)).2)
    generalize ((((((q1 && q2) && q3) && q4) && q5) && q6) && q7) = bb at *
    cases bb
    · go_wp2_with fail
      all_goals refine HQ0.out _ _ ⟨_, rfl, by simp [hsz], by simp [f1], Chop.at_same _ _ _ (by simp [hsz]), by first | exact Bn.out | exact B7.out, by first | exact Hn.out | exact H7.out⟩
    · go_wp2_with (go_at_call 112; (with_reducible refine (Q8.out _ H7.out (HW8.out rfl)).mono ?_); rintro e vn ⟨rfl, rfl⟩)
      all_goals refine HQ0.out _ _ ⟨_, rfl, by simp [hsz], by simp [f1], Chop.at_same _ _ _ (by simp [hsz]), by first | exact Bn.out | exact B7.out, by first | exact Hn.out | exact H7.out⟩
  rintro a w' ⟨T, rfl, hsz, f1, fb, hB, hH⟩
  clear hx7 row7 z7
  obtain ⟨v8, rfl⟩ : ∃ v : World, v = w' := ⟨_, rfl⟩
  have B8 := Lib.hid hB
  have H8 := Lib.hid hH
  have hx8 := hB.cell
  have row8 := hB.row
  have z8 : w.heap.size < v8.heap.size := hB.lt
  clear hB hH
  have gb := Chop.getD_of fb
  have g1 := Chop.getD_of f1
  have e1 := Chop.elem_of f1 (by rw [hsz]; decide)
  have eb := Chop.elem_of fb (by rw [hsz]; decide)
  refine Chop.chop_rel 5 (fun a w' => ∃ T : Array Value, a = ⟨T, []⟩ ∧ T.size = 74 ∧ T[1]? = some (.pointer (some ⟨w.heap.size, 0, none⟩)) ∧ T[67]? = some (.bool ((((((((q1 && q2) && q3) && q4) && q5) && q6) && q7) && q8) && q9)) ∧ RowB w' w.heap.size (scrA s) ∧ Below w.heap.size w w') (fun Q0 hQ0 => ?_) ?_
  · have HQ0 := Lib.hid hQ0
    clear hQ0
    change wpList _ _ _ (_ :: _ :: _ :: _ :: _ :: []) _ _
    generalize (((((((q1 && q2) && q3) && q4) && q5) && q6) && q7) && q8) = bb at *
    cases bb
    · go_wp2_with fail
      all_goals refine HQ0.out _ _ ⟨_, rfl, by simp [hsz], by simp [f1], Chop.at_same _ _ _ (by simp [hsz]), by first | exact Bn.out | exact B8.out, by first | exact Hn.out | exact H8.out⟩
    · go_wp2_with (go_at_call 113; (with_reducible refine (Q9.out _ H8.out).mono ?_); rintro e vn ⟨rfl, rfl⟩)
      all_goals refine HQ0.out _ _ ⟨_, rfl, by simp [hsz], by simp [f1], Chop.at_same _ _ _ (by simp [hsz]), by first | exact Bn.out | exact B8.out, by first | exact Hn.out | exact H8.out⟩
  rintro a w' ⟨T, rfl, hsz, f1, fb, hB, hH⟩
  clear hx8 row8 z8
  obtain ⟨v9, rfl⟩ : ∃ v : World, v = w' := ⟨_, rfl⟩
  have B9 := Lib.hid hB
  have H9 := Lib.hid hH
  have hx9 := hB.cell
  have row9 := hB.row
  have z9 : w.heap.size < v9.heap.size := hB.lt
  clear hB hH
  have gb := Chop.getD_of fb
  have g1 := Chop.getD_of f1
  have e1 := Chop.elem_of f1 (by rw [hsz]; decide)
  have eb := Chop.elem_of fb (by rw [hsz]; decide)
  refine Chop.chop_rel 7 (fun a w' => ∃ T : Array Value, a = ⟨T, []⟩ ∧ T.size = 74 ∧ T[1]? = some (.pointer (some ⟨w.heap.size, 0, none⟩)) ∧ T[2]? = some (.bool (((((((((q1 && q2) && q3) && q4) && q5) && q6) && q7) && q8) && q9) && q10)) ∧ RowB w' w.heap.size (scrA s) ∧ Below w.heap.size w w') (fun Q0 hQ0 => ?_) ?_
  · have HQ0 := Lib.hid hQ0
    clear hQ0
    change wpList _ _ _ (_ :: _ :: _ :: _ :: _ :: _ :: _ :: []) _ _
    generalize ((((((((q1 && q2) && q3) && q4) && q5) && q6) && q7) && q8) && q9) = bb at *
    cases bb
    · go_wp2_with fail
      all_goals refine HQ0.out _ _ ⟨_, rfl, by simp [hsz], by simp [f1], Chop.at_same _ _ _ (by simp [hsz]), by first | exact Bn.out | exact B9.out, by first | exact Hn.out | exact H9.out⟩
    · go_wp2_with (go_at_call 114; (with_reducible refine (Q10.out _ H9.out).mono ?_); rintro e vn ⟨rfl, hbn⟩; have Bn := Lib.hid (B9.out.below hbn B9.out.lt); have Hn := Lib.hid (H9.out.trans (hbn.mono H9.out.size)); clear hbn)
      all_goals refine HQ0.out _ _ ⟨_, rfl, by simp [hsz], by simp [f1], Chop.at_same _ _ _ (by simp [hsz]), by first | exact Bn.out | exact B9.out, by first | exact Hn.out | exact H9.out⟩
  rintro a w' ⟨T, rfl, hsz, f1, fb, hB, hH⟩
  clear hx9 row9 z9
  obtain ⟨v10, rfl⟩ : ∃ v : World, v = w' := ⟨_, rfl⟩
  have B10 := Lib.hid hB
  have H10 := Lib.hid hH
  have hx10 := hB.cell
  have row10 := hB.row
  have z10 : w.heap.size < v10.heap.size := hB.lt
  clear hB hH
  have gb := Chop.getD_of fb
  have g1 := Chop.getD_of f1
  have e1 := Chop.elem_of f1 (by rw [hsz]; decide)
  have eb := Chop.elem_of fb (by rw [hsz]; decide)
  rw [HE.out] at fb gb eb
  change wpList _ _ _ [] _ _
  go_wp2_with fail
  go_ret
  exact ⟨by show Ending.returned (T.getD 2 undef) = _; rw [gb], H10.out⟩
end Go.Proofs.Ythlpchojlddnbaa.Sc

