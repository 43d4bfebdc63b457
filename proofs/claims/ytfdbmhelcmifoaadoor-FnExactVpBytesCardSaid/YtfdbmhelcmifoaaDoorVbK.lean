/- The program's parser: VpBytes in the model. -/
import Derived.Test.YtfdbmhelcmifoaaDoorVbJ
import Derived.Deep.RegionWith
import Derived.Deep.DrawnRows
namespace Go.Proofs.YtfdbmhelcmifoaaDoor.Vp
open Go.RowKit Go.Proofs.YtfdbmhelcmifoaaDoor.Bytes Go.Proofs.YtfdbmhelcmifoaaDoor.DOk Go.Proofs.YtfdbmhelcmifoaaDoor.Rune Go.Proofs.YtfdbmhelcmifoaaDoor.RowK Go.Proofs.YtfdbmhelcmifoaaDoor.Gr
set_option linter.unusedVariables false
attribute [local go_sem ↓] Go.wp_at_zero Go.wp_at_succ
theorem boxV_ne {w : World} {b base K n : Nat} {cs : Array Value} {E : TypeId} {v : Value} {xs : List Value} (h : BoxV w b cs) (hr : w.ownsRow base E K v n xs) (hE : 38 ≠ E) : v.ownBlock ≠ some b := by
  intro e
  rcases hr.2 with ⟨rfl, _⟩ | ⟨g, _, _, rfl, _, hg, _⟩
  · cases e
  · simp only [Value.ownBlock, Option.some.injEq] at e
    subst e
    unfold BoxV at h
    rw [h] at hg
    simp only [Option.some.injEq, Obj.cells.injEq] at hg
    exact hE hg.2.1
theorem own_put4Ne {w : World} {base K n b : Nat} {E : TypeId} {v : Value} {xs : List Value} (h : w.ownsRow base E K v n xs) (hb : v.ownBlock ≠ some b) (x0 x1 x2 x3 : Value) : ((((w.setCell ⟨b, 0, none⟩ x0).setCell ⟨b, 1, none⟩ x1).setCell ⟨b, 2, none⟩ x2).setCell ⟨b, 3, none⟩ x3).ownsRow base E K v n xs :=
  own_setNe (own_setNe (own_setNe (own_setNe h b 0 _ hb) b 1 _ hb) b 2 _ hb) b 3 _ hb
/-- what holds at the head of the loop over the bytes, in the model -/
def LoopS (W0 : World) (base b6 : Nat) (s : VS) (ys : List Int) (acts i : Value) (wr : World) : Prop :=
  ∃ (k : Nat) (A : Option Addr) (na ca : Nat) (P : Option Addr) (np cp : Nat) (F : Option Addr) (n c : Nat) (ds : List ActD), k ≤ ys.length ∧ i = .int .i64 k ∧ acts = .slice F n c ∧
    BoxV wr b6 #[.int .i64 (runV s (ys.take k)).1.st, .bool (runV s (ys.take k)).1.q, .slice A na ca, .slice P np cp] ∧ OwnI wr base A na ca (runV s (ys.take k)).1.zs ∧ Own wr base P np cp (runV s (ys.take k)).1.bs ∧ OwnF4 wr base F n c ds ∧ OwnAs wr base ds ∧ ds.map ActD.a = (runV s (ys.take k)).2 ∧ (∀ d ∈ ds, ∀ i, Blk d.A d.n d.c i → ¬ Blk A na ca i) ∧ Below base W0 wr
section
variable {W0 wr w3 : World} {base b6 : Nat} {s : VS} {ys : List Int} {k : Nat} {F : Option Addr} {n c : Nat} {ds : List ActD} {r : VS × AS} {A9 : Option Addr} {n9 c9 : Nat} {P9 : Option Addr} {p9 d9 : Nat} {A8 : Option Addr} {n8 c8 : Nat} {o1 o2 : Obj} {x : Array Value}
/-- what a step leaves, with the state's variable written and two variables made -/
structure StepS (W0 : World) (base b6 : Nat) (F : Option Addr) (n c : Nat) (ds : List ActD) (r : VS × AS) (A9 : Option Addr) (n9 c9 : Nat) (P9 : Option Addr) (p9 d9 : Nat) (A8 : Option Addr) (n8 c8 : Nat) (W : World) : Prop where
  bx : BoxV W b6 #[.int .i64 r.1.st, .bool r.1.q, .slice A9 n9 c9, .slice P9 p9 d9]
  i : OwnI W base A9 n9 c9 r.1.zs
  b : Own W base P9 p9 d9 r.1.bs
  a : OwnI W base A8 n8 c8 r.2.zs
  f : OwnF4 W base F n c ds
  as_ : OwnAs W base ds
  n9 : ∀ d ∈ ds, ∀ i, Blk d.A d.n d.c i → ¬ Blk A9 n9 c9 i
  n8 : ∀ d ∈ ds, ∀ i, Blk d.A d.n d.c i → ¬ Blk A8 n8 c8 i
  bl : Below base W0 W
theorem stepS {x0 x1 x2 x3 : Value} (hx : BoxV wr b6 #[x0, x1, x2, x3]) (h4 : OwnF4 wr base F n c ds) (hA : OwnAs wr base ds) (hb : Below base W0 wr) (hB : base ≤ wr.heap.size) (hb6 : base ≤ b6)
    (h1 : OwnI w3 wr.heap.size A9 n9 c9 r.1.zs) (h2 : Own w3 wr.heap.size P9 p9 d9 r.1.bs) (h3 : OwnI w3 wr.heap.size A8 n8 c8 r.2.zs) (hbw : Below wr.heap.size wr w3) :
    StepS W0 base b6 F n c ds r A9 n9 c9 P9 p9 d9 A8 n8 c8 ((((((w3.setCell ⟨b6, 0, none⟩ (.int .i64 r.1.st)).setCell ⟨b6, 1, none⟩ (.bool r.1.q)).setCell ⟨b6, 2, none⟩ (.slice A9 n9 c9)).setCell ⟨b6, 3, none⟩ (.slice P9 p9 d9)).alloc o1).alloc o2) := by
  have hx3 := hx.below hbw hx.lt
  have e6 : ∀ {A : Option Addr} {n c : Nat} {zs : List Int}, OwnI w3 wr.heap.size A n c zs → (Value.slice A n c).ownBlock ≠ some b6 := fun h e => by have := (h.blk b6 e).1; have := hx.lt; omega
  have e7 : (Value.slice P9 p9 d9).ownBlock ≠ some b6 := fun e => by have := (h2.blk b6 e).1; have := hx.lt; omega
  have h4' := own_belowK h4 (Nat.le_refl _) hbw
  have hA' := hA.below (Nat.le_refl _) hbw
  have up : ∀ {W : World} {K m : Nat} {E : TypeId} {v : Value} {xs : List Value} {B : Nat}, W.ownsRow B E K v m xs → ((W.alloc o1).alloc o2).ownsRow B E K v m xs := fun h => World.ownsRow.alloc (World.ownsRow.alloc h _) _
  refine ⟨?_, own_moreK (up (own_put4Ne h1 (e6 h1) _ _ _ _)) hB, own_moreK (up (own_put4Ne h2 e7 _ _ _ _)) hB, own_moreK (up (own_put4Ne h3 (e6 h3) _ _ _ _)) hB, up (own_put4Ne h4' (boxV_ne hx3 h4' (by decide)) _ _ _ _), ⟨fun d hd => up (own_put4Ne (hA'.own d hd) (boxV_ne hx3 (hA'.own d hd) (by decide)) _ _ _ _), hA.sep⟩, ?_, ?_, ?_⟩
  · have h5 := (((hx3.set0 (.int .i64 r.1.st)).set1 (.bool r.1.q)).set2 (.slice A9 n9 c9)).set3 (.slice P9 p9 d9)
    exact (h5.below ((Below.refl _ _).alloc (Nat.le_refl _) _) h5.lt).below ((Below.refl _ _).alloc (Nat.le_refl _) _) (by have := h5.lt; simp at this ⊢; omega)
  · exact fun d hd i hi h => by have h5 := ((hA.own d hd).blk i hi).2; have h6 := (h1.blk i h).1; omega
  · exact fun d hd i hi h => by have h5 := ((hA.own d hd).blk i hi).2; have h6 := (h3.blk i h).1; omega
  · have h5 := below_put4 (hb.trans (hbw.mono hB)) hb6 (.int .i64 r.1.st) (.bool r.1.q) (.slice A9 n9 c9) (.slice P9 p9 d9)
    have h6 : base ≤ w3.heap.size := Nat.le_trans hB hbw.size
    exact (h5.alloc (by simpa using h6) _).alloc (by simp; omega) _
theorem loopS_keep {W : World} (hk : k < ys.length) (hm : ds.map ActD.a = (runV s (ys.take k)).2) (hr : r = stepV (runV s (ys.take k)).1 (ys.getD k 0)) (h0 : r.2.k = 0) (h : StepS W0 base b6 F n c ds r A9 n9 c9 P9 p9 d9 A8 n8 c8 W) :
    LoopS W0 base b6 s ys (.slice F n c) (.int .i64 ((k : Int) + 1)) W := by
  have e : runV s (ys.take (k + 1)) = (r.1, (runV s (ys.take k)).2) := by rw [runV_snoc s ys k hk]; unfold foldV; rw [← hr, if_pos h0]
  exact ⟨k + 1, A9, n9, c9, P9, p9, d9, F, n, c, ds, by omega, by go_num, rfl, by rw [e]; exact h.bx, by rw [e]; exact h.i, by rw [e]; exact h.b, h.f, h.as_, by rw [e]; exact hm, h.n9, h.bl⟩
theorem loopS_app {W W4 : World} {F' : Option Addr} {c' : Nat} {o : Obj} (hk : k < ys.length) (hm : ds.map ActD.a = (runV s (ys.take k)).2) (hr : r = stepV (runV s (ys.take k)).1 (ys.getD k 0)) (h0 : ¬ r.2.k = 0) (hap : A8 = none ∨ A9 = none) (h : StepS W0 base b6 F n c ds r A9 n9 c9 P9 p9 d9 A8 n8 c8 W) (hB : base ≤ W.heap.size)
    (h7 : OwnF4 W4 base F' (n + 1) c' (ds ++ [⟨r.2.k, r.2.r, r.2.q, A8, n8, c8, r.2.zs⟩])) (hgr : W.grownBy W4 (Value.slice F n c).ownBlock) :
    LoopS W0 base b6 s ys (.slice F' (n + 1) c') (.int .i64 ((k : Int) + 1)) W4 := by
  have e : runV s (ys.take (k + 1)) = (r.1, (runV s (ys.take k)).2 ++ [r.2]) := by rw [runV_snoc s ys k hk]; unfold foldV; rw [← hr, if_neg h0]
  have on : Only (fun i => Blk F n c i) W W4 := Only.grown hgr fun i hi => hi
  have h8 : OwnAs W4 base ds := h.as_.only on fun d hd i h1 h2 => own4_ne h.f (h.as_.own d hd) i h2 h1
  have h9 : OwnI W4 base A8 n8 c8 r.2.zs := Only.own h.a on fun i h1 h2 => own4_ne h.f h.a i h2 h1
  refine ⟨k + 1, A9, n9, c9, P9, p9, d9, F', n + 1, c', _, by omega, by go_num, rfl, ?_, ?_, ?_, h7, h8.snoc h9 h.n8, by rw [e, List.map_append, hm]; rfl, fun d hd i hi hA => ?_, ?_⟩
  · rw [e]; exact h.bx.only on fun h' => boxV_ne h.bx h.f (by decide) h'
  · rw [e]; exact Only.own h.i on fun i h1 h2 => own4_ne h.f h.i i h2 h1
  · rw [e]; exact Only.own h.b on fun i h1 h2 => own4_neP h.f h.b i h2 h1
  · rcases List.mem_append.1 hd with hd | hd
    · exact h.n9 d hd i hi hA
    · simp at hd; subst hd
      rcases hap with h' | h'
      · simp only [h'] at hi; cases hi
      · simp only [h'] at hA; cases hA
  · exact on.below_ h.bl hB (fun i hi => (World.ownsRow.lt h.f i hi).1)
end
set_option maxRecDepth 100000 in
set_option maxHeartbeats 1600000 in
theorem spec_VpBytes_bad (st : Int) (mk : Bool) (A : Option Addr) (na ca : Nat) (zs : List Int) (P : Option Addr) (np cp : Nat) (bs : List Int) (Y : Option Addr) (ny cy : Nat) (ys : List Int) (w : World) (hr : RdI w w.heap.size A zs) (hA : A = none → na = 0 ∧ ca = 0) (hl : zs.length = na) (hn : na ≤ 1048576) (hp : Rd w w.heap.size P bs) (hP : P = none → np = 0 ∧ cp = 0) (hg : Rng bs) (hpl : bs.length = np) (hpn : np ≤ 1048576) (hpc : np ≤ cp) (hy : Rd w w.heap.size Y ys) (hyl : ys.length = ny) (hyn : ny ≤ 1000000000) (hyr : Rng ys) (hok : okVp st mk zs bs = false) :
    Calls Tryd.prog 21 #[.agg #[.int .i64 st, .bool mk, .slice A na ca, .slice P np cp], .slice Y ny cy] w (AnsBs w vz []) := by
  have HW0 := Lib.hid (show Below w.heap.size w ((w.alloc (.cells #[.int .i64 st, .bool mk, .slice A na ca, .slice P np cp] 38)).alloc (.cells #[.int .i64 0, .bool false, .slice none 0 0, .slice none 0 0] 38)) from ((Below.refl _ _).alloc (Nat.le_refl _) _).alloc (by simp) _)
  have HV := Lib.hid (show BoxV ((w.alloc (.cells #[.int .i64 st, .bool mk, .slice A na ca, .slice P np cp] 38)).alloc (.cells #[.int .i64 0, .bool false, .slice none 0 0, .slice none 0 0] 38)) w.heap.size #[.int .i64 st, .bool mk, .slice A na ca, .slice P np cp] from (BoxV.new w _).below ((Below.refl _ _).alloc (Nat.le_refl _) _) (by simp))
  have HV1 := Lib.hid (show BoxV ((w.alloc (.cells #[.int .i64 st, .bool mk, .slice A na ca, .slice P np cp] 38)).alloc (.cells #[.int .i64 0, .bool false, .slice none 0 0, .slice none 0 0] 38)) (w.heap.size + 1) #[.int .i64 0, .bool false, .slice none 0 0, .slice none 0 0] from by have h := BoxV.new (w.alloc (.cells #[.int .i64 st, .bool mk, .slice A na ca, .slice P np cp] 38)) #[.int .i64 0, .bool false, .slice none 0 0, .slice none 0 0]; simp only [World.size_alloc] at h; exact h)
  have HC := spec_VpOk_any st mk A na ca zs P np cp bs ((w.alloc (.cells #[.int .i64 st, .bool mk, .slice A na ca, .slice P np cp] 38)).alloc (.cells #[.int .i64 0, .bool false, .slice none 0 0, .slice none 0 0] 38)) ((hr.below (Nat.le_refl _) HW0.out).more HW0.out.size) hl (by omega) ((hp.below (Nat.le_refl _) HW0.out).more HW0.out.size) hg hpl hP (by omega) hpc
  rw [hok] at HC
  have HC := Lib.hid HC
  clear hr hA hl hn hp hP hg hpl hpn hpc hy hyl hyn hyr hok
  go_enter Tryd.func21, Tryd.ntmps21
  go_wp2_with fail
  refine HC.out.mono ?_
  rintro e w1 ⟨rfl, hb1⟩
  have HW1 := Lib.hid (HW0.out.trans (hb1.mono (by simp <;> omega)))
  have v1 := HV1.out.below hb1 (by simp <;> omega)
  have v0 := HV.out.below hb1 (by simp <;> omega)
  have hz1 : w.heap.size + 1 < w1.heap.size := by have := hb1.size; simp at this; omega
  have x0 : w1.cell? ⟨w.heap.size + 1, 0, none⟩ = some (.int .i64 0) := v1.cell 0
  have x1 : w1.cell? ⟨w.heap.size + 1, 1, none⟩ = some (.bool false) := v1.cell 1
  have x2 : w1.cell? ⟨w.heap.size + 1, 2, none⟩ = some (.slice none 0 0) := v1.cell 2
  have x3 : w1.cell? ⟨w.heap.size + 1, 3, none⟩ = some (.slice none 0 0) := v1.cell 3
  have f0 := v1.free 0
  have f1 := v1.free 1
  have f2 := v1.free 2
  have f3 := v1.free 3
  clear v0 v1 hb1
  go_wp2_with fail
  refine bodyPost_ret (v := .tuple #[.agg #[.int .i64 0, .bool false, .slice none 0 0, .slice none 0 0], .slice none 0 0]) (by simp [results, Tryd.results21, go_sem, x0, x1, x2, x3]) rfl ?_
  exact ⟨none, 0, 0, none, 0, 0, none, 0, 0, [], rfl, ownI_nil _ _, own_nil _ _, ownF4_nil _ _, OwnAs.nil _ _, rfl, by simp, below_put4 HW1.out (by omega) _ _ _ _⟩
set_option maxRecDepth 100000 in
set_option maxHeartbeats 1600000 in
theorem spec_VpBytes_ok (st : Int) (mk : Bool) (A : Option Addr) (na ca : Nat) (zs : List Int) (P : Option Addr) (np cp : Nat) (bs : List Int) (Y : Option Addr) (ny cy : Nat) (ys : List Int) (w : World) (hr : RdI w w.heap.size A zs) (hA : A = none → na = 0 ∧ ca = 0) (hl : zs.length = na) (hn : na ≤ 1048576) (hp : Rd w w.heap.size P bs) (hP : P = none → np = 0 ∧ cp = 0) (hg : Rng bs) (hpl : bs.length = np) (hpn : np ≤ 1048576) (hpc : np ≤ cp) (hy : Rd w w.heap.size Y ys) (hyl : ys.length = ny) (hyn : ny ≤ 1000000000) (hyr : Rng ys) (hok : okVp st mk zs bs = true) :
    Calls Tryd.prog 21 #[.agg #[.int .i64 st, .bool mk, .slice A na ca, .slice P np cp], .slice Y ny cy] w (AnsBs w (runV ⟨st, mk, zs, bs⟩ ys).1 (runV ⟨st, mk, zs, bs⟩ ys).2) := by
  have HW0 := Lib.hid (show Below w.heap.size w ((w.alloc (.cells #[.int .i64 st, .bool mk, .slice A na ca, .slice P np cp] 38)).alloc (.cells #[.int .i64 0, .bool false, .slice none 0 0, .slice none 0 0] 38)) from ((Below.refl _ _).alloc (Nat.le_refl _) _).alloc (by simp) _)
  have HV := Lib.hid (show BoxV ((w.alloc (.cells #[.int .i64 st, .bool mk, .slice A na ca, .slice P np cp] 38)).alloc (.cells #[.int .i64 0, .bool false, .slice none 0 0, .slice none 0 0] 38)) w.heap.size #[.int .i64 st, .bool mk, .slice A na ca, .slice P np cp] from (BoxV.new w _).below ((Below.refl _ _).alloc (Nat.le_refl _) _) (by simp))
  have HV1 := Lib.hid (show BoxV ((w.alloc (.cells #[.int .i64 st, .bool mk, .slice A na ca, .slice P np cp] 38)).alloc (.cells #[.int .i64 0, .bool false, .slice none 0 0, .slice none 0 0] 38)) (w.heap.size + 1) #[.int .i64 0, .bool false, .slice none 0 0, .slice none 0 0] from by have h := BoxV.new (w.alloc (.cells #[.int .i64 st, .bool mk, .slice A na ca, .slice P np cp] 38)) #[.int .i64 0, .bool false, .slice none 0 0, .slice none 0 0]; simp only [World.size_alloc] at h; exact h)
  have HC := spec_VpOk_any st mk A na ca zs P np cp bs ((w.alloc (.cells #[.int .i64 st, .bool mk, .slice A na ca, .slice P np cp] 38)).alloc (.cells #[.int .i64 0, .bool false, .slice none 0 0, .slice none 0 0] 38)) ((hr.below (Nat.le_refl _) HW0.out).more HW0.out.size) hl (by omega) ((hp.below (Nat.le_refl _) HW0.out).more HW0.out.size) hg hpl hP (by omega) hpc
  rw [hok] at HC
  have HC := Lib.hid HC
  have HOK := Lib.hid (show VS.ok ⟨st, mk, zs, bs⟩ from ⟨hok, hg⟩)
  have HCP := Lib.hid (fun W (h : Below w.heap.size w W) => copy_any st mk A na ca zs P np cp bs W ((hr.below (Nat.le_refl _) h).more h.size) hA hl hn ((hp.below (Nat.le_refl _) h).more h.size) hP hpl hpn)
  have HYL := Lib.hid hyl
  have HYR := Lib.hid hyr
  have HY := Lib.hid hy
  clear hr hA hl hn hp hP hg hpl hpn hpc hy hyl hyr hok
  go_enter Tryd.func21, Tryd.ntmps21
  go_wp2_with fail
  refine HC.out.mono ?_
  rintro e w1 ⟨rfl, hb1⟩
  have HW1 := Lib.hid (HW0.out.trans (hb1.mono (by simp <;> omega)))
  have v1 := HV1.out.below hb1 (by simp <;> omega)
  have v0 := HV.out.below hb1 (by simp <;> omega)
  have hz1 : w.heap.size + 1 < w1.heap.size := by have := hb1.size; simp at this; omega
  have HV0 := Lib.hid v0
  have HV2 := Lib.hid v1
  have y0 : w1.cell? ⟨w.heap.size, 0, none⟩ = some (.int .i64 st) := v0.cell 0
  have y1 : w1.cell? ⟨w.heap.size, 1, none⟩ = some (.bool mk) := v0.cell 1
  have y2 : w1.cell? ⟨w.heap.size, 2, none⟩ = some (.slice A na ca) := v0.cell 2
  have y3 : w1.cell? ⟨w.heap.size, 3, none⟩ = some (.slice P np cp) := v0.cell 3
  clear v0 v1 hb1
  go_wp2_with fail
  refine (HCP.out _ HW1.out).mono ?_
  rintro e w2 ⟨A1, c1, P1, d1, rfl, hi2, hq2, hb2⟩
  have hz2 : w1.heap.size ≤ w2.heap.size := hb2.size
  have HBX := Lib.hid (show BoxV ((w2.alloc (.cells #[.int .i64 st, .bool mk, .slice A1 na c1, .slice P1 np d1] 38)).alloc (.cells #[] 53)) w2.heap.size #[.int .i64 st, .bool mk, .slice A1 na c1, .slice P1 np d1] from (BoxV.new w2 _).below ((Below.refl _ _).alloc (Nat.le_refl _) _) (by simp))
  have HI2 := Lib.hid (show OwnI ((w2.alloc (.cells #[.int .i64 st, .bool mk, .slice A1 na c1, .slice P1 np d1] 38)).alloc (.cells #[] 53)) w1.heap.size A1 na c1 zs from World.ownsRow.alloc (World.ownsRow.alloc hi2 _) _)
  have HQ2 := Lib.hid (show Own ((w2.alloc (.cells #[.int .i64 st, .bool mk, .slice A1 na c1, .slice P1 np d1] 38)).alloc (.cells #[] 53)) w1.heap.size P1 np d1 bs from World.ownsRow.alloc (World.ownsRow.alloc hq2 _) _)
  have HF0 := Lib.hid (show OwnF4 ((w2.alloc (.cells #[.int .i64 st, .bool mk, .slice A1 na c1, .slice P1 np d1] 38)).alloc (.cells #[] 53)) w1.heap.size (some ⟨w2.heap.size + 1, 0, none⟩) 0 0 [] from by
    have h := World.ownsRow_lit (w2.alloc (.cells #[.int .i64 st, .bool mk, .slice A1 na c1, .slice P1 np d1] 38)) (base := w1.heap.size) (e := 53) (size := 4) #[] 0 (by simp; omega) (by decide) rfl
    simp only [World.size_alloc] at h; exact h)
  have HBL := Lib.hid (show Below w1.heap.size w1 ((w2.alloc (.cells #[.int .i64 st, .bool mk, .slice A1 na c1, .slice P1 np d1] 38)).alloc (.cells #[] 53)) from (hb2.alloc hz2 _).alloc (by simp; omega) _)
  clear hi2 hq2 hb2 y0 y1 y2 y3
  go_wp2_with fail
  go_loopw [7, 21] (fun acts i wr => LoopS w1 w1.heap.size w2.heap.size ⟨st, mk, zs, bs⟩ ys acts i wr) (fun _ i _ => ny - (intOf i).toNat)
  case atStart => exact ⟨0, A1, na, c1, P1, np, d1, _, 0, 0, [], Nat.zero_le _, rfl, rfl, HBX.out, HI2.out, HQ2.out, HF0.out, OwnAs.nil _ _, rfl, by simp, HBL.out⟩
  case round =>
    clear HBX HI2 HQ2 HF0 HBL
    obtain ⟨k, A2, n2, c2, P2, p2, d2, F, n, c, ds, hk, rfl, rfl, hbx, hi4, hq4, h4, hAs, hm, hsp, hbw⟩ := hrel
    have HBX := Lib.hid hbx
    have HI4 := Lib.hid hi4
    have HQ4 := Lib.hid hq4
    have H4 := Lib.hid h4
    have HAS := Lib.hid hAs
    have HM := Lib.hid hm
    have HSP := Lib.hid hsp
    have HBW := Lib.hid hbw
    have hzr : w1.heap.size ≤ wr.heap.size := hbw.size
    have hz6 : w2.heap.size < wr.heap.size := hbx.lt
    have y0 : wr.cell? ⟨w2.heap.size, 0, none⟩ = some (.int .i64 (runV ⟨st, mk, zs, bs⟩ (ys.take k)).1.st) := hbx.cell 0
    have y1 : wr.cell? ⟨w2.heap.size, 1, none⟩ = some (.bool (runV ⟨st, mk, zs, bs⟩ (ys.take k)).1.q) := hbx.cell 1
    have y2 : wr.cell? ⟨w2.heap.size, 2, none⟩ = some (.slice A2 n2 c2) := hbx.cell 2
    have y3 : wr.cell? ⟨w2.heap.size, 3, none⟩ = some (.slice P2 p2 d2) := hbx.cell 3
    clear hbx hi4 hq4 h4 hAs hm hsp hbw
    have hok' := runV_ok HOK.out (ys.take k) (fun z hz => HYR.out z (List.mem_of_mem_take hz))
    by_cases hlt : k < ny
    · obtain ⟨bb, oo, hY, hyb, hyc⟩ := (HY.out.below (Nat.le_refl _) (HW1.out.trans (HBW.out.mono (by omega)))).at_ (k := k) (by rw [HYL.out]; exact hlt)
      subst hY
      have hyr := HYR.out.at_ k
      obtain ⟨y, hyy⟩ : ∃ y, y = ys.getD k 0 := ⟨_, rfl⟩
      rw [← hyy] at hyc hyr
      have hkl : k < ys.length := by rw [HYL.out]; exact hlt
      obtain ⟨s', hs'⟩ : ∃ s', s' = (runV ⟨st, mk, zs, bs⟩ (ys.take k)).1 := ⟨_, rfl⟩
      obtain ⟨r, hr9⟩ : ∃ r, r = stepV (runV ⟨st, mk, zs, bs⟩ (ys.take k)).1 (ys.getD k 0) := ⟨_, rfl⟩
      have hi4 := HI4.out
      have hq4 := HQ4.out
      rw [← hs'] at hok' hi4 hq4 y0 y1
      have hsm := ok_parts hok'
      have hl8 : n2 ≤ 8 := by have := hi4.len; rcases hsm with ⟨_, _, e, _⟩ | ⟨_, _, e, _⟩ | ⟨_, e, _⟩ <;> (first | (rw [e] at this; simp at this; omega) | omega)
      have hl2 : p2 ≤ 2 := by have := hq4.len; rcases hsm with ⟨_, _, _, e⟩ | ⟨_, _, _, e⟩ | ⟨_, _, e, _⟩ <;> (first | omega | (rw [e] at this; simp at this; omega))
      have hrd := spec_VpByte_any s'.st s'.q A2 n2 c2 s'.zs P2 p2 d2 s'.bs y wr hi4.rd (own_noneK hi4) hi4.len (by omega) hq4.rd (own_none hq4) hok'.2 hq4.len (by omega) hq4.cap
      have ev : vbV ⟨s'.st, s'.q, s'.zs, s'.bs⟩ y = r := by
        rw [hr9, ← hs', ← hyy]; unfold vbV isB; rw [if_pos (by rw [hok'.1]; simp; omega)]
      rw [ev] at hrd
      have HRD := Lib.hid hrd
      have HR9 := Lib.hid hr9
      have HK9 := Lib.hid hkl
      have HST := Lib.hid hs'
      have hy0 := hyr.1
      have hy1 := hyr.2
      clear hyr hok' hr9 hrd hyy hkl hs' hi4 hq4 hsm hl8 hl2 ev
      by_cases h0 : r.2.k = 0
      · have HZ := Lib.hid h0
        have hz0 : (r.2.k != 0) = false := by simp [h0]
        clear h0
        go_wp2_with fail
        refine HRD.out.mono ?_
        rintro e w3 ⟨A9, n9, c9, P9, p9, d9, A8, n8, c8, rfl, h1, h2, h3, hap, hb3⟩
        have HL := Lib.hid (fun o1 o2 => loopS_keep HK9.out HM.out HR9.out HZ.out (stepS (o1 := o1) (o2 := o2) HBX.out H4.out HAS.out HBW.out hzr hz2 h1 h2 h3 hb3))
        have hx3 := HBX.out.below hb3 HBX.out.lt
        have x0 : w3.cell? ⟨w2.heap.size, 0, none⟩ = some (.int .i64 (runV ⟨st, mk, zs, bs⟩ (ys.take k)).1.st) := hx3.cell 0
        have x1 : w3.cell? ⟨w2.heap.size, 1, none⟩ = some (.bool (runV ⟨st, mk, zs, bs⟩ (ys.take k)).1.q) := hx3.cell 1
        have x2 : w3.cell? ⟨w2.heap.size, 2, none⟩ = some (.slice A2 n2 c2) := hx3.cell 2
        have x3 : w3.cell? ⟨w2.heap.size, 3, none⟩ = some (.slice P2 p2 d2) := hx3.cell 3
        have f0 := hx3.free 0
        have f1 := hx3.free 1
        have f2 := hx3.free 2
        have f3 := hx3.free 3
        have hz7 : w2.heap.size < w3.heap.size := hx3.lt
        have hz8 : w2.heap.size < w3.heap.size + 1 := by omega
        clear h1 h2 h3 hap hb3 hx3 y0 y1 y2 y3
        go_wp2_with fail
        exact ⟨HL.out _ _, by simp [intOf]; omega⟩
      · have HZ := Lib.hid h0
        have hz0 : (r.2.k != 0) = true := by simp [h0]
        clear h0
        go_wp2_with fail
        refine HRD.out.mono ?_
        rintro e w3 ⟨A9, n9, c9, P9, p9, d9, A8, n8, c8, rfl, h1, h2, h3, hap, hb3⟩
        have HSS := Lib.hid (stepS (r := r) (o1 := .cells #[.int .i64 r.1.st, .bool r.1.q, .slice A9 n9 c9, .slice P9 p9 d9] 38) (o2 := .cells #[.int .i64 r.2.k, .int .i64 r.2.r, .bool r.2.q, .slice A8 n8 c8] 53) HBX.out H4.out HAS.out HBW.out hzr hz2 h1 h2 h3 hb3)
        have HAP := Lib.hid hap
        have hx3 := HBX.out.below hb3 HBX.out.lt
        have x0 : w3.cell? ⟨w2.heap.size, 0, none⟩ = some (.int .i64 (runV ⟨st, mk, zs, bs⟩ (ys.take k)).1.st) := hx3.cell 0
        have x1 : w3.cell? ⟨w2.heap.size, 1, none⟩ = some (.bool (runV ⟨st, mk, zs, bs⟩ (ys.take k)).1.q) := hx3.cell 1
        have x2 : w3.cell? ⟨w2.heap.size, 2, none⟩ = some (.slice A2 n2 c2) := hx3.cell 2
        have x3 : w3.cell? ⟨w2.heap.size, 3, none⟩ = some (.slice P2 p2 d2) := hx3.cell 3
        have f0 := hx3.free 0
        have f1 := hx3.free 1
        have f2 := hx3.free 2
        have f3 := hx3.free 3
        have hz7 : w2.heap.size < w3.heap.size := hx3.lt
        have hz8 : w2.heap.size < w3.heap.size + 1 := by omega
        have hz9 : wr.heap.size ≤ w3.heap.size := hb3.size
        have hnl : n ≤ 1000000000 := by have h1 := ownF4_len H4.out; have h2 := congrArg List.length HM.out; have h3 := runV_len (s := ⟨st, mk, zs, bs⟩) (ys.take k); simp at h2 h3; omega
        clear h1 h2 h3 hap hb3 hx3 y0 y1 y2 y3
        go_wp2_with (at_builtin; refine append_act (d := ⟨r.2.k, r.2.r, r.2.q, A8, n8, c8, r.2.zs⟩) rfl _ _ rfl rfl (w3.heap.size + 1 + 1) (by simp) rfl HSS.out.f hnl (by simp; omega) ?_)
        intro F' c' w4 h7 hgr
        have HQ := Lib.hid (loopS_app (o := .cells #[] 53) HK9.out HM.out HR9.out HZ.out HAP.out HSS.out (by simp; omega) h7 hgr)
        clear h7 hgr
        go_wp2_with fail
        exact ⟨HQ.out, by simp [intOf]; omega⟩
    · obtain rfl : k = ny := by have := HYL.out; omega
      have hm := HM.out
      have hi := HI4.out
      have hq := HQ4.out
      rw [runV_all _ ys HYL.out] at hm hi hq y0 y1
      obtain ⟨s', hs'⟩ : ∃ s', s' = (runV ⟨st, mk, zs, bs⟩ ys).1 := ⟨_, rfl⟩
      obtain ⟨as_, has'⟩ : ∃ as_, as_ = (runV ⟨st, mk, zs, bs⟩ ys).2 := ⟨_, rfl⟩
      rw [← hs'] at hi hq y0 y1
      rw [← has'] at hm
      have HIB := Lib.hid hi
      have HQB := Lib.hid hq
      have HMB := Lib.hid hm
      have HE1 := Lib.hid hs'
      have HE2 := Lib.hid has'
      have v1 := HV2.out.below HBW.out hz1
      have x0 : wr.cell? ⟨w.heap.size + 1, 0, none⟩ = some (.int .i64 0) := v1.cell 0
      have x1 : wr.cell? ⟨w.heap.size + 1, 1, none⟩ = some (.bool false) := v1.cell 1
      have x2 : wr.cell? ⟨w.heap.size + 1, 2, none⟩ = some (.slice none 0 0) := v1.cell 2
      have x3 : wr.cell? ⟨w.heap.size + 1, 3, none⟩ = some (.slice none 0 0) := v1.cell 3
      have f0 := v1.free 0
      have f1 := v1.free 1
      have f2 := v1.free 2
      have f3 := v1.free 3
      clear hm hi hq hs' has' v1 HI4 HQ4 HM hok'
      go_wp2_with fail
      refine bodyPost_ret (v := .tuple #[.agg #[.int .i64 s'.st, .bool s'.q, .slice A2 n2 c2, .slice P2 p2 d2], .slice F n c]) (by simp [results, Tryd.results21, go_sem, x0, x1, x2, x3]) rfl ?_
      have hB : w.heap.size ≤ w1.heap.size := by omega
      rw [← HE1.out, ← HE2.out]
      exact ⟨A2, n2, c2, P2, p2, d2, F, n, c, ds, rfl, own_moreK (own_put4 HIB.out hz1 _ _ _ _) hB, own_moreK (own_put4 HQB.out hz1 _ _ _ _) hB, own_moreK (own_put4 H4.out hz1 _ _ _ _) hB, ⟨fun d hd => own_moreK (own_put4 (HAS.out.own d hd) hz1 _ _ _ _) hB, HAS.out.sep⟩, HMB.out, HSP.out, below_put4 (HW1.out.trans (HBW.out.mono hB)) (by omega) _ _ _ _⟩
theorem spec_VpBytes_any (st : Int) (mk : Bool) (A : Option Addr) (na ca : Nat) (zs : List Int) (P : Option Addr) (np cp : Nat) (bs : List Int) (Y : Option Addr) (ny cy : Nat) (ys : List Int) (w : World) (hr : RdI w w.heap.size A zs) (hA : A = none → na = 0 ∧ ca = 0) (hl : zs.length = na) (hn : na ≤ 1048576) (hp : Rd w w.heap.size P bs) (hP : P = none → np = 0 ∧ cp = 0) (hg : Rng bs) (hpl : bs.length = np) (hpn : np ≤ 1048576) (hpc : np ≤ cp) (hy : Rd w w.heap.size Y ys) (hyl : ys.length = ny) (hyn : ny ≤ 1000000000) (hyr : Rng ys) :
    Calls Tryd.prog 21 #[.agg #[.int .i64 st, .bool mk, .slice A na ca, .slice P np cp], .slice Y ny cy] w (AnsBs w (vbsV ⟨st, mk, zs, bs⟩ ys).1 (vbsV ⟨st, mk, zs, bs⟩ ys).2) := by
  cases hok : okVp st mk zs bs with
  | false =>
    have e : vbsV ⟨st, mk, zs, bs⟩ ys = (vz, []) := by unfold vbsV; simp [hok]
    rw [e]; exact spec_VpBytes_bad st mk A na ca zs P np cp bs Y ny cy ys w hr hA hl hn hp hP hg hpl hpn hpc hy hyl hyn hyr hok
  | true =>
    have e : vbsV ⟨st, mk, zs, bs⟩ ys = runV ⟨st, mk, zs, bs⟩ ys := by unfold vbsV; simp [hok]
    rw [e]; exact spec_VpBytes_ok st mk A na ca zs P np cp bs Y ny cy ys w hr hA hl hn hp hP hg hpl hpn hpc hy hyl hyn hyr hok
end Go.Proofs.YtfdbmhelcmifoaaDoor.Vp
