/- The program's parser: made from a state. -/
import Derived.Test.YtfdbmhelcmifoaaDoorVpU
import Derived.Test.YtfdbmhelcmifoaaDoorVpTo
import Derived.Lib.SliceRun
import Derived.WalkSpells
namespace Go.Proofs.YtfdbmhelcmifoaaDoor.Vp
open Go.RowKit Go.Proofs.YtfdbmhelcmifoaaDoor.Bytes Go.Proofs.YtfdbmhelcmifoaaDoor.DOk Go.Proofs.YtfdbmhelcmifoaaDoor.Rune Go.Proofs.YtfdbmhelcmifoaaDoor.RowK Go.Proofs.YtfdbmhelcmifoaaDoor.Gr Go.Proofs.YtfdbmhelcmifoaaDoor.Var
set_option linter.unusedVariables false
attribute [local go_sem ↓] Go.wp_at_zero Go.wp_at_succ
theorem rdI_cells {w : World} {B : Nat} {ad : Addr} {zs : List Int} (h : RdI w B (some ad) zs) : ∀ j u, (iv zs)[j]? = some u → w.cell? (ad.add j) = some u := by
  intro j u hu
  have hj : j < zs.length := by have := (List.getElem?_eq_some_iff.1 hu).1; simpa [iv] using this
  obtain ⟨b, o, e, hlt, hc⟩ := h.at_ hj
  injection e with e
  subst e
  rw [Addr.add_lit, hc]
  simpa [iv, hj] using hu
theorem iv_cell (a : List Int) : ∀ u ∈ iv a, u.oneCell' = true := ints_oneCell _ _
theorem iv_app (a b : List Int) : iv (a ++ b) = iv a ++ iv b := by simp [iv]
theorem iv_len (a : List Int) : (iv a).length = a.length := by simp [iv]
theorem appendI_src {wr : World} {ops : Array Oper} {rest : List Oper} {o : Oper} {a : Act} {Q : Exit → Act → World → Prop} (hgd : o.guard = none) (s x : Operand)
    (ho : o.op = .call { callee := .builtin .append, args := #[s, x], argTypes := #[22, 22] })
    {base B n c n1 c1 : Nat} {A A1 : Option Addr} {xs ys : List Int} (hs : a.eval s = .slice A n c) (hx : a.eval x = .slice A1 n1 c1)
    (hown : OwnI wr base A n c xs) (hsrc : RdI wr B A1 ys) (hA : A1 = none → n1 = 0 ∧ c1 = 0) (hl : ys.length = n1) (hn : n ≤ 1099511627776) (hn1 : n1 ≤ 1099511627776) (hbase : base ≤ wr.heap.size)
    (h : ∀ A' c' w', OwnI w' base A' (n + n1) c' (xs ++ ys) → Below base wr w' → wpList Tryd.prog ops Q rest (a.put o.dst (.slice A' (n + n1) c')) w') :
    wpList Tryd.prog ops Q (o :: rest) a wr := by
  obtain ⟨i0, hi, hz0, hz1, hz2⟩ := info_parts intInfo
  rcases A1 with _ | ad
  · obtain ⟨rfl, rfl⟩ := hA rfl
    obtain rfl : ys = [] := List.eq_nil_of_length_eq_zero hl
    refine wpList_append_own_none hgd s x 22 ho base 3 i0 1 Tryd.underlying22 hi _ _ _ hs hown hx ?_
    have := h A c wr (by simpa using hown) (Below.refl _ _)
    simpa using this
  · refine wpList_append_own _ hgd s x 22 ho base 3 i0 (.int .i64 0) 1 8 Tryd.underlying22 hi hz0 hz1 hz2 rfl (by decide) _ _ _ hs hown ad n1 c1 (iv ys) hx (by rw [iv_len]; omega) (rdI_cells hsrc) (iv_cell _) ?_ ?_ hbase ?_
    · unfold maxLen; omega
    · omega
    · intro v' w' hown' hgrow _
      rw [← iv_app] at hown'
      obtain ⟨A', c', rfl⟩ := own_shapeK hown'
      exact h A' c' w' hown' ((Below.refl _ _).grown hgrow hbase fun g hg => (hown.blk g hg).1)
set_option maxRecDepth 100000 in
set_option maxHeartbeats 800000 in
theorem cloneI_any (A : Option Addr) (n c : Nat) (zs : List Int) (w : World) (hA : A = none → n = 0 ∧ c = 0) (hr : RdI w w.heap.size A zs) (hl : zs.length = n) (hn : n ≤ 1099511627776) :
    Calls Tryd.prog 92 #[.slice A n c] w fun e w' => ∃ A' c', e = .returned (.slice A' n c') ∧ OwnI w' w.heap.size A' n c' zs ∧ Below w.heap.size w w' := by
  have HL := Lib.hid hl
  have HA := Lib.hid hA
  clear hl hA
  have hown0 : OwnI (w.alloc (.cells #[] 3)) w.heap.size (some ⟨w.heap.size, 0, none⟩) 0 0 [] := World.ownsRow_lit w #[] 0 (Nat.le_refl _) (by decide) rfl
  have hb0 : Below w.heap.size w (w.alloc (.cells #[] 3)) := (Below.refl w.heap.size w).alloc (Nat.le_refl _) (.cells #[] 3)
  have hr0 := hr.below (Nat.le_refl _) hb0
  rcases A with _ | ad
  · obtain ⟨rfl, rfl⟩ := HA.out rfl
    obtain rfl : zs = [] := List.eq_nil_of_length_eq_zero HL.out
    have hnil := fun W : World => Lib.run_eql_slice_nil (P := Tryd.prog) W 22 3 none 0 0 0 0 Tryd.underlying22
    go_enter Tryd.func92, Tryd.ntmps92
    go_wp2_with fail
    go_ret
    exact ⟨none, 0, rfl, ownI_nil _ _, Below.refl _ _⟩
  · have hnil := fun W : World => Lib.run_eql_slice_nil (P := Tryd.prog) W 22 3 (some ad) n c 0 0 Tryd.underlying22
    go_enter Tryd.func92, Tryd.ntmps92
    go_wp2_with (at_builtin; refine appendI_src rfl _ _ rfl rfl rfl hown0 hr0 HA.out HL.out (by omega) (by omega) (by simp) ?_)
    intro A1 c1 w1 ho1 hb1
    have hb2 := hb0.trans hb1
    clear hown0 hb0 hr0 hb1 hr
    go_wp2
    go_ret
    exact ⟨_, _, rfl, by simpa using ho1, hb2⟩
theorem become_any (g : Nat) (x0 x1 x2 x3 x4 : Value) (st : Int) (hst : 0 ≤ st ∧ st ≤ 3) (mk : Bool) (A : Option Addr) (na ca : Nat) (P : Option Addr) (np cp : Nat) (w : World) (h : BoxP w g #[x0, x1, x2, x3, x4]) :
    Calls Tryd.prog 73 #[.pointer (some ⟨g, 0, none⟩), .agg #[.int .i64 st, .bool mk, .slice A na ca, .slice P np cp]] w (Bec g st mk A na ca P np cp w) := by
  obtain rfl | rfl | rfl | rfl : st = 0 ∨ st = 1 ∨ st = 2 ∨ st = 3 := by omega
  · exact become_0 g x0 x1 x2 x3 x4 mk A na ca P np cp w h
  · exact become_1 g x0 x1 x2 x3 x4 mk A na ca P np cp w h
  · exact become_2 g x0 x1 x2 x3 x4 mk A na ca P np cp w h
  · exact become_3 g x0 x1 x2 x3 x4 mk A na ca P np cp w h
def New (w : World) (s : VS) (na np : Nat) (e : Ending) (w' : World) : Prop := ∃ g A' ca' P' cp', e = .returned (.pointer (some ⟨g, 0, none⟩)) ∧ Par w' w.heap.size g s A' na ca' P' np cp' ∧ w.heap.size ≤ g ∧ Below w.heap.size w w'
theorem below_put4 {B b : Nat} {a w : World} (h : Below B a w) (hb : B ≤ b) (x0 x1 x2 x3 : Value) : Below B a ((((w.setCell ⟨b, 0, none⟩ x0).setCell ⟨b, 1, none⟩ x1).setCell ⟨b, 2, none⟩ x2).setCell ⟨b, 3, none⟩ x3) :=
  (((h.setCell hb _).setCell hb _).setCell hb _).setCell hb _
theorem own_put4 {w : World} {base K n b : Nat} {E : TypeId} {v : Value} {xs : List Value} (h : w.ownsRow base E K v n xs) (hb : b < base) (x0 x1 x2 x3 : Value) : ((((w.setCell ⟨b, 0, none⟩ x0).setCell ⟨b, 1, none⟩ x1).setCell ⟨b, 2, none⟩ x2).setCell ⟨b, 3, none⟩ x3).ownsRow base E K v n xs :=
  own_setK (own_setK (own_setK (own_setK h b 0 _ hb) b 1 _ hb) b 2 _ hb) b 3 _ hb
set_option maxRecDepth 100000 in
set_option maxHeartbeats 1600000 in
theorem copyVp_any (st : Int) (mk : Bool) (A : Option Addr) (na ca : Nat) (zs : List Int) (P : Option Addr) (np cp : Nat) (bs : List Int) (w : World) (hr : RdI w w.heap.size A zs) (hA : A = none → na = 0 ∧ ca = 0) (hl : zs.length = na) (hn : na ≤ 1099511627776) (hp : Rd w w.heap.size P bs) (hP : P = none → np = 0 ∧ cp = 0) (hpl : bs.length = np) (hpn : np ≤ 1099511627776) :
    Calls Tryd.prog 74 #[.agg #[.int .i64 st, .bool mk, .slice A na ca, .slice P np cp]] w fun e w' => ∃ A1 c1 P1 d1, e = .returned (.agg #[.int .i64 st, .bool mk, .slice A1 na c1, .slice P1 np d1]) ∧ OwnI w' w.heap.size A1 na c1 zs ∧ Own w' w.heap.size P1 np d1 bs ∧ Below w.heap.size w w' := by
  have HW0 := Lib.hid (show Below w.heap.size w ((w.alloc (.cells #[.int .i64 st, .bool mk, .slice A na ca, .slice P np cp] 38)).alloc (.cells #[.int .i64 0, .bool false, .slice none 0 0, .slice none 0 0] 38)) from ((Below.refl _ _).alloc (Nat.le_refl _) _).alloc (by simp) _)
  have HC := Lib.hid (fun W (h : Below w.heap.size w W) => cloneI_any A na ca zs W hA ((hr.below (Nat.le_refl _) h).more h.size) hl hn)
  have HD := Lib.hid (fun W (h : Below w.heap.size w W) => clone_any P np cp bs W hP ((hp.below (Nat.le_refl _) h).more h.size) hpl hpn)
  have HN := Lib.hid (show BoxV ((w.alloc (.cells #[.int .i64 st, .bool mk, .slice A na ca, .slice P np cp] 38)).alloc (.cells #[.int .i64 0, .bool false, .slice none 0 0, .slice none 0 0] 38)) w.heap.size #[.int .i64 st, .bool mk, .slice A na ca, .slice P np cp] from (BoxV.new w _).below ((Below.refl _ _).alloc (Nat.le_refl _) _) (by simp))
  have HZ := Lib.hid (show BoxV ((w.alloc (.cells #[.int .i64 st, .bool mk, .slice A na ca, .slice P np cp] 38)).alloc (.cells #[.int .i64 0, .bool false, .slice none 0 0, .slice none 0 0] 38)) (w.heap.size + 1) #[.int .i64 0, .bool false, .slice none 0 0, .slice none 0 0] from by have h := BoxV.new (w.alloc (.cells #[.int .i64 st, .bool mk, .slice A na ca, .slice P np cp] 38)) #[.int .i64 0, .bool false, .slice none 0 0, .slice none 0 0]; simpa using h)
  clear hr hA hl hp hP hpl
  go_enter Tryd.func74, Tryd.ntmps74
  go_wp2_with fail
  refine (HC.out _ HW0.out).mono ?_
  rintro e w1 ⟨A1, c1, rfl, ho1, hb1⟩
  have HW1 := Lib.hid (HW0.out.trans (hb1.mono (by simp; omega)))
  have hx1 := HN.out.below hb1 (by simp; omega)
  have hx2 := HZ.out.below hb1 (by simp)
  have x0 : w1.cell? ⟨w.heap.size, 0, none⟩ = some (.int .i64 st) := hx1.cell 0
  have x1 : w1.cell? ⟨w.heap.size, 1, none⟩ = some (.bool mk) := hx1.cell 1
  have x2 : w1.cell? ⟨w.heap.size, 2, none⟩ = some (.slice A na ca) := hx1.cell 2
  have x3 : w1.cell? ⟨w.heap.size, 3, none⟩ = some (.slice P np cp) := hx1.cell 3
  have f2 := hx1.free 2
  have hz1 : w.heap.size + 1 < w1.heap.size := by have := hb1.size; simp at this; omega
  have hz1' : w.heap.size < w1.heap.size := by omega
  have HY1 := Lib.hid (show BoxV (w1.setCell ⟨w.heap.size, 2, none⟩ (.slice A1 na c1)) w.heap.size #[.int .i64 st, .bool mk, .slice A1 na c1, .slice P np cp] from hx1.set2 _)
  have HY2 := Lib.hid (show BoxV (w1.setCell ⟨w.heap.size, 2, none⟩ (.slice A1 na c1)) (w.heap.size + 1) #[.int .i64 0, .bool false, .slice none 0 0, .slice none 0 0] from hx2.other (by omega))
  have HW2 := Lib.hid (show Below w.heap.size w (w1.setCell ⟨w.heap.size, 2, none⟩ (.slice A1 na c1)) from HW1.out.setCell (Nat.le_refl _) _)
  have HO2 := Lib.hid (show OwnI (w1.setCell ⟨w.heap.size, 2, none⟩ (.slice A1 na c1)) (w.heap.size + 2) A1 na c1 zs from own_setK (ho1.more (base' := w.heap.size + 2) (by simp)) w.heap.size 2 _ (by omega))
  clear hx1 hx2 ho1 hb1
  go_wp2_with fail
  refine (HD.out _ HW2.out).mono ?_
  rintro e w2 ⟨P1, d1, rfl, ho2, hb2⟩
  have hx2 := HY1.out.below hb2 (by simp; omega)
  have hy2 := HY2.out.below hb2 (by simp; omega)
  have HO3 := Lib.hid (HO2.out.below (Nat.le_refl _) hb2)
  have HW3 := Lib.hid (HW2.out.trans (hb2.mono (by simp; omega)))
  have HP2 := Lib.hid (ho2.more (base' := w.heap.size + 2) (by simp; omega))
  have y0 : w2.cell? ⟨w.heap.size, 0, none⟩ = some (.int .i64 st) := hx2.cell 0
  have y1 : w2.cell? ⟨w.heap.size, 1, none⟩ = some (.bool mk) := hx2.cell 1
  have y2 : w2.cell? ⟨w.heap.size, 2, none⟩ = some (.slice A1 na c1) := hx2.cell 2
  have y3 : w2.cell? ⟨w.heap.size, 3, none⟩ = some (.slice P np cp) := hx2.cell 3
  have g3 := hx2.free 3
  have q0 : w2.cell? ⟨w.heap.size + 1, 0, none⟩ = some (.int .i64 0) := hy2.cell 0
  have q1 : w2.cell? ⟨w.heap.size + 1, 1, none⟩ = some (.bool false) := hy2.cell 1
  have q2 : w2.cell? ⟨w.heap.size + 1, 2, none⟩ = some (.slice none 0 0) := hy2.cell 2
  have q3 : w2.cell? ⟨w.heap.size + 1, 3, none⟩ = some (.slice none 0 0) := hy2.cell 3
  have p0 := hy2.free 0
  have p1 := hy2.free 1
  have p2 := hy2.free 2
  have p3 := hy2.free 3
  have hz2 : w.heap.size + 1 < w2.heap.size := by have := hb2.size; simp at this; omega
  have hz2' : w.heap.size < w2.heap.size := by omega
  clear hx2 hy2 ho2 hb2 x0 x1 x2 x3 f2
  go_wp2_with fail
  refine bodyPost_ret (v := .agg #[.int .i64 st, .bool mk, .slice A1 na c1, .slice P1 np d1]) (by simp [results, Tryd.results74, go_sem, q0, q1, q2, q3]) rfl ?_
  refine ⟨A1, c1, P1, d1, rfl, ?_, ?_, ?_⟩
  · exact own_moreK (own_put4 (own_setK HO3.out _ 3 _ (by omega)) (by omega) _ _ _ _) (by omega)
  · exact own_moreK (own_put4 (own_setK HP2.out _ 3 _ (by omega)) (by omega) _ _ _ _) (by omega)
  · exact below_put4 (HW3.out.setCell (Nat.le_refl _) _) (by omega) _ _ _ _
set_option maxRecDepth 100000 in
set_option maxHeartbeats 1600000 in
theorem newParser_any (st : Int) (hst : 0 ≤ st ∧ st ≤ 3) (mk : Bool) (A : Option Addr) (na ca : Nat) (zs : List Int) (P : Option Addr) (np cp : Nat) (bs : List Int) (w : World) (hr : RdI w w.heap.size A zs) (hA : A = none → na = 0 ∧ ca = 0) (hl : zs.length = na) (hn : na ≤ 1099511627776) (hp : Rd w w.heap.size P bs) (hP : P = none → np = 0 ∧ cp = 0) (hpl : bs.length = np) (hpn : np ≤ 1099511627776) :
    Calls Tryd.prog 43 #[.agg #[.int .i64 st, .bool mk, .slice A na ca, .slice P np cp]] w (New w ⟨st, mk, zs, bs⟩ na np) := by
  have HW0 := Lib.hid (show Below w.heap.size w ((w.alloc (.cells #[.int .i64 st, .bool mk, .slice A na ca, .slice P np cp] 38)).alloc (.cells #[.int .i64 0, .bool false, .slice none 0 0, .slice none 0 0, .nilFunc] 85)) from ((Below.refl _ _).alloc (Nat.le_refl _) _).alloc (by simp) _)
  have HCP := Lib.hid (fun W (h : Below w.heap.size w W) => copyVp_any st mk A na ca zs P np cp bs W ((hr.below (Nat.le_refl _) h).more h.size) hA hl hn ((hp.below (Nat.le_refl _) h).more h.size) hP hpl hpn)
  have HN := Lib.hid (show BoxP ((w.alloc (.cells #[.int .i64 st, .bool mk, .slice A na ca, .slice P np cp] 38)).alloc (.cells #[.int .i64 0, .bool false, .slice none 0 0, .slice none 0 0, .nilFunc] 85)) (w.heap.size + 1) #[.int .i64 0, .bool false, .slice none 0 0, .slice none 0 0, .nilFunc] from by have h := BoxP.new (w.alloc (.cells #[.int .i64 st, .bool mk, .slice A na ca, .slice P np cp] 38)) #[.int .i64 0, .bool false, .slice none 0 0, .slice none 0 0, .nilFunc]; simpa using h)
  have HST := Lib.hid hst
  clear hr hA hl hp hP hpl hst
  go_enter Tryd.func43, Tryd.ntmps43
  go_wp2_with fail
  refine (HCP.out _ HW0.out).mono ?_
  rintro e w2 ⟨A1, c1, P1, d1, rfl, ho1, ho2, hb2⟩
  have HBP := Lib.hid (HN.out.below hb2 (by simp))
  have HOI := Lib.hid (ho1.more (base' := w.heap.size + 2) (by simp))
  have HOB := Lib.hid (ho2.more (base' := w.heap.size + 2) (by simp))
  have HW4 := Lib.hid (HW0.out.trans (hb2.mono (by simp; omega)))
  have hz2 : w.heap.size + 1 < w2.heap.size := by have := hb2.size; simp at this; omega
  have hz2' : w.heap.size < w2.heap.size := by omega
  clear ho1 ho2 hb2
  go_wp2_with fail
  refine (become_any _ _ _ _ _ _ st HST.out mk A1 na c1 P1 np d1 _ HBP.out).mono ?_
  rintro e w3 ⟨rfl, hb3, hb4⟩
  have HR : Hid (Par w3 w.heap.size (w.heap.size + 1) ⟨st, mk, zs, bs⟩ A1 na c1 P1 np d1) := Lib.hid ⟨hb3, (show OwnI w3 w.heap.size A1 na c1 zs from own_moreK (Only.own HOI.out hb4 (fun i hi e => by have := (HOI.out.blk i hi).1; omega)) (by omega)), (show Own w3 w.heap.size P1 np d1 bs from own_moreK (Only.own HOB.out hb4 (fun i hi e => by have := (HOB.out.blk i hi).1; omega)) (by omega))⟩
  have HW5 := Lib.hid (hb4.below_ HW4.out (by omega) (fun i hi => by omega))
  clear hb3 hb4
  go_wp2_with fail
  go_ret
  exact ⟨_, _, _, _, _, rfl, HR.out, by omega, HW5.out⟩
/-- what VpByte answers -/
def AnsVB (w : World) (r : VS × AS) (e : Ending) (w' : World) : Prop :=
  ∃ A' na' ca' P' np' cp' A2 n2 c2, e = .returned (.tuple #[.agg #[.int .i64 r.1.st, .bool r.1.q, .slice A' na' ca', .slice P' np' cp'], .agg #[.int .i64 r.2.k, .int .i64 r.2.r, .bool r.2.q, .slice A2 n2 c2]]) ∧
    OwnI w' w.heap.size A' na' ca' r.1.zs ∧ Own w' w.heap.size P' np' cp' r.1.bs ∧ OwnI w' w.heap.size A2 n2 c2 r.2.zs ∧ (A2 = none ∨ A' = none) ∧ Below w.heap.size w w'
def isB (s : VS) (b : Int) : Bool := okVp s.st s.q s.zs s.bs && decide (0 ≤ b ∧ b ≤ 255)
def vbV (s : VS) (b : Int) : VS × AS := if isB s b = true then stepV s b else (vz, az)
end Go.Proofs.YtfdbmhelcmifoaaDoor.Vp
