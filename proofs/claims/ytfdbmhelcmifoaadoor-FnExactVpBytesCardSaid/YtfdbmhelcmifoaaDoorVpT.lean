/- The program's parser: a rune, a byte outside of sequences. -/
import Derived.Test.YtfdbmhelcmifoaaDoorVpR
namespace Go.Proofs.YtfdbmhelcmifoaaDoor.Vp
open Go.RowKit Go.Proofs.YtfdbmhelcmifoaaDoor.Bytes Go.Proofs.YtfdbmhelcmifoaaDoor.DOk Go.Proofs.YtfdbmhelcmifoaaDoor.Rune Go.Proofs.YtfdbmhelcmifoaaDoor.RowK Go.Proofs.YtfdbmhelcmifoaaDoor.Gr
set_option linter.unusedVariables false
attribute [local go_sem ↓] Go.wp_at_zero Go.wp_at_succ
set_option maxRecDepth 100000 in
set_option maxHeartbeats 1600000 in
theorem inRune_beg (g base : Nat) (st : Int) (q : Bool) (A : Option Addr) (na ca : Nat) (zs : List Int) (B : Option Addr) (nB cB : Nat) (ys : List Int) (w : World) (hT : TabsB base w) (h : Par w base g ⟨st, q, zs, []⟩ A na ca none 0 0) (hB : Own w base B nB cB ys) (hr : Rng ys) (hn : nB ≤ 1000) (hbeg : begB ys = true) :
    Calls Tryd.prog 107 #[.pointer (some ⟨g, 0, none⟩), .slice B nB cB] w (Ans w base g A na ca B nB cB ⟨st, q, zs, ys⟩ az) := by
  have hg := h.bx.lt
  have hAl : ∀ i, Blk A na ca i → i < w.heap.size := fun i hi => (h.ltA i hi).2
  have hBl := ownLt hB
  have HW0 := Lib.hid (show Below w.heap.size w (w.alloc (.cells #[.int .i64 0, .int .i64 0, .bool false, .slice none 0 0] 53)) from (Below.refl _ _).alloc (Nat.le_refl _) _)
  have HN := Lib.hid (BoxA.new w #[.int .i64 0, .int .i64 0, .bool false, .slice none 0 0])
  have HC := (impl_RuneBegin_any B nB cB ys (w.alloc (.cells #[.int .i64 0, .int .i64 0, .bool false, .slice none 0 0] 53)) (hT.at_ HW0.out) (hB.below (Nat.le_refl _) HW0.out).rd hr hB.len)
  rw [hbeg] at HC
  have HC := Lib.hid HC
  have H := Lib.hid h
  have HB := Lib.hid hB
  clear h hB hbeg hr hT
  go_enter Tryd.func107, Tryd.ntmps107
  go_wp2_with fail
  refine HC.out.mono ?_
  rintro e w1 ⟨rfl, hb1⟩
  have HW1 := Lib.hid (HW0.out.trans (hb1.mono (by simp)))
  have HP1 := Lib.hid (H.out.below HW1.out (Nat.le_refl _))
  have ha := HN.out.below hb1 (by simp)
  have hs1 : w.heap.size < w1.heap.size := by have := hb1.size; simp at this; omega
  have HB1 := Lib.hid (HB.out.below (Nat.le_refl _) HW1.out)
  obtain ⟨⟨x0, x1, x2, x3⟩, f0, f1, f2, f3⟩ := ha.cells
  obtain ⟨⟨y0, y1, y2, y3, y4⟩, z0, z1, z2, z3, z4⟩ := HP1.out.cells
  clear ha hb1
  go_wp2_with fail
  refine bodyPost_ret (v := .agg #[.int .i64 0, .int .i64 0, .bool false, .slice none 0 0]) (by simp [results, Tryd.results107, go_sem, x0, x1, x2, x3]) rfl ?_
  exact ans_wrapG hg hAl hBl HW1.out ((mth_part HP1.out HB1.out).ans 0 0 false) (put4 _ w.heap.size _ _ _ _) (fun i hi => by subst hi; exact ⟨Nat.le_refl _, hs1⟩)
set_option maxRecDepth 100000 in
set_option maxHeartbeats 1600000 in
theorem inRune_eq (g base : Nat) (st : Int) (q : Bool) (A : Option Addr) (na ca : Nat) (zs : List Int) (B : Option Addr) (nB cB : Nat) (ys : List Int) (w : World) (hT : TabsB base w) (h : Par w base g ⟨st, q, zs, []⟩ A na ca none 0 0) (hB : Own w base B nB cB ys) (hr : Rng ys) (hn : nB ≤ 1000) (hbeg : begB ys = false) (hrd : (rdV ys 0).2 = (ys.length : Int)) :
    Calls Tryd.prog 107 #[.pointer (some ⟨g, 0, none⟩), .slice B nB cB] w (Ans w base g A na ca B nB cB ⟨st, q, zs, []⟩ ⟨1, runeV ys, false, []⟩) := by
  have hg := h.bx.lt
  have hAl : ∀ i, Blk A na ca i → i < w.heap.size := fun i hi => (h.ltA i hi).2
  have hBl := ownLt hB
  have HW0 := Lib.hid (show Below w.heap.size w (w.alloc (.cells #[.int .i64 0, .int .i64 0, .bool false, .slice none 0 0] 53)) from (Below.refl _ _).alloc (Nat.le_refl _) _)
  have HN := Lib.hid (BoxA.new w #[.int .i64 0, .int .i64 0, .bool false, .slice none 0 0])
  have HC := (impl_RuneBegin_any B nB cB ys (w.alloc (.cells #[.int .i64 0, .int .i64 0, .bool false, .slice none 0 0] 53)) (hT.at_ HW0.out) (hB.below (Nat.le_refl _) HW0.out).rd hr hB.len)
  rw [hbeg] at HC
  have HC := Lib.hid HC
  have HD := fun (W : World) (hx : Below w.heap.size w W) => impl_RuneRead_any B nB cB ys 0 W (hT.at_ hx) (hB.below (Nat.le_refl _) hx).rd hr hB.len (by omega) hB.cap
  obtain ⟨r, hr1⟩ : ∃ r, r = (rdV ys 0).1 := ⟨_, rfl⟩
  have hlen := hB.len
  have hru : runeV ys = r := by unfold runeV; rw [if_pos hrd, hr1]
  rw [hru]
  rw [hrd, ← hr1, hlen] at HD
  have hne : ((nB : Int) != (nB : Int)) = false := by simp
  have HD := Lib.hid HD
  have H := Lib.hid h
  have HB := Lib.hid hB
  clear h hB hbeg hr hT hrd hru hr1 hlen
  go_enter Tryd.func107, Tryd.ntmps107
  go_wp2_with fail
  refine HC.out.mono ?_
  rintro e w1 ⟨rfl, hb1⟩
  have HW1 := Lib.hid (HW0.out.trans (hb1.mono (by simp)))
  have HP1 := Lib.hid (H.out.below HW1.out (Nat.le_refl _))
  have ha := HN.out.below hb1 (by simp)
  have hs1 : w.heap.size < w1.heap.size := by have := hb1.size; simp at this; omega
  clear ha
  go_wp2_with fail
  refine (HD.out _ HW1.out).mono ?_
  rintro e w2 ⟨rfl, hb2⟩
  have HW2 := Lib.hid (HW1.out.trans (hb2.mono (by omega)))
  have HP2 := Lib.hid (H.out.below HW2.out (Nat.le_refl _))
  have ha := (HN.out.below hb1 (by simp)).below hb2 hs1
  have hs2 : w.heap.size < w2.heap.size := Nat.lt_of_lt_of_le hs1 hb2.size
  obtain ⟨⟨x0, x1, x2, x3⟩, f0, f1, f2, f3⟩ := ha.cells
  obtain ⟨⟨y0, y1, y2, y3, y4⟩, z0, z1, z2, z3, z4⟩ := HP2.out.cells
  clear ha hb1 hb2
  go_wp2_with fail
  refine bodyPost_ret (v := .agg #[.int .i64 1, .int .i64 r, .bool false, .slice none 0 0]) (by simp [results, Tryd.results107, go_sem, x0, x1, x2, x3]) rfl ?_
  exact ans_wrapG hg hAl hBl HW2.out ((mth_stay HP2.out).ans 1 r false) (put4 _ w.heap.size _ _ _ _) (fun i hi => by subst hi; exact ⟨Nat.le_refl _, hs2⟩)
set_option maxRecDepth 100000 in
set_option maxHeartbeats 1600000 in
theorem inRune_ne (g base : Nat) (st : Int) (q : Bool) (A : Option Addr) (na ca : Nat) (zs : List Int) (B : Option Addr) (nB cB : Nat) (ys : List Int) (w : World) (hT : TabsB base w) (h : Par w base g ⟨st, q, zs, []⟩ A na ca none 0 0) (hB : Own w base B nB cB ys) (hr : Rng ys) (hn : nB ≤ 1000) (hbeg : begB ys = false) (hrd : ¬ (rdV ys 0).2 = (ys.length : Int)) :
    Calls Tryd.prog 107 #[.pointer (some ⟨g, 0, none⟩), .slice B nB cB] w (Ans w base g A na ca B nB cB ⟨st, q, zs, []⟩ ⟨1, runeV ys, false, []⟩) := by
  have hg := h.bx.lt
  have hAl : ∀ i, Blk A na ca i → i < w.heap.size := fun i hi => (h.ltA i hi).2
  have hBl := ownLt hB
  have HW0 := Lib.hid (show Below w.heap.size w (w.alloc (.cells #[.int .i64 0, .int .i64 0, .bool false, .slice none 0 0] 53)) from (Below.refl _ _).alloc (Nat.le_refl _) _)
  have HN := Lib.hid (BoxA.new w #[.int .i64 0, .int .i64 0, .bool false, .slice none 0 0])
  have HC := (impl_RuneBegin_any B nB cB ys (w.alloc (.cells #[.int .i64 0, .int .i64 0, .bool false, .slice none 0 0] 53)) (hT.at_ HW0.out) (hB.below (Nat.le_refl _) HW0.out).rd hr hB.len)
  rw [hbeg] at HC
  have HC := Lib.hid HC
  have HD := fun (W : World) (hx : Below w.heap.size w W) => impl_RuneRead_any B nB cB ys 0 W (hT.at_ hx) (hB.below (Nat.le_refl _) hx).rd hr hB.len (by omega) hB.cap
  obtain ⟨r, hr1⟩ : ∃ r, r = (rdV ys 0).1 := ⟨_, rfl⟩
  obtain ⟨k, hk1⟩ : ∃ k, k = (rdV ys 0).2 := ⟨_, rfl⟩
  have hlen := hB.len
  have hru : runeV ys = 65533 := by unfold runeV; rw [if_neg hrd]
  rw [hru]
  rw [← hr1, ← hk1] at HD
  rw [← hk1, hlen] at hrd
  have hne : (k != (nB : Int)) = true := by simpa [bne_iff_ne] using hrd
  have HD := Lib.hid HD
  have H := Lib.hid h
  have HB := Lib.hid hB
  clear h hB hbeg hr hT hrd hru hr1 hlen hk1
  go_enter Tryd.func107, Tryd.ntmps107
  go_wp2_with fail
  refine HC.out.mono ?_
  rintro e w1 ⟨rfl, hb1⟩
  have HW1 := Lib.hid (HW0.out.trans (hb1.mono (by simp)))
  have HP1 := Lib.hid (H.out.below HW1.out (Nat.le_refl _))
  have ha := HN.out.below hb1 (by simp)
  have hs1 : w.heap.size < w1.heap.size := by have := hb1.size; simp at this; omega
  clear ha
  go_wp2_with fail
  refine (HD.out _ HW1.out).mono ?_
  rintro e w2 ⟨rfl, hb2⟩
  have HW2 := Lib.hid (HW1.out.trans (hb2.mono (by omega)))
  have HP2 := Lib.hid (H.out.below HW2.out (Nat.le_refl _))
  have ha := (HN.out.below hb1 (by simp)).below hb2 hs1
  have hs2 : w.heap.size < w2.heap.size := Nat.lt_of_lt_of_le hs1 hb2.size
  obtain ⟨⟨x0, x1, x2, x3⟩, f0, f1, f2, f3⟩ := ha.cells
  obtain ⟨⟨y0, y1, y2, y3, y4⟩, z0, z1, z2, z3, z4⟩ := HP2.out.cells
  clear ha hb1 hb2
  go_wp2_with fail
  refine bodyPost_ret (v := .agg #[.int .i64 1, .int .i64 65533, .bool false, .slice none 0 0]) (by simp [results, Tryd.results107, go_sem, x0, x1, x2, x3]) rfl ?_
  exact ans_wrapG hg hAl hBl HW2.out ((mth_stay HP2.out).ans 1 65533 false) (put4 _ w.heap.size _ _ _ _) (fun i hi => by subst hi; exact ⟨Nat.le_refl _, hs2⟩)
def runeOut (st : Int) (q : Bool) (zs ys : List Int) : VS × AS := if begB ys = true then (⟨st, q, zs, ys⟩, az) else (⟨st, q, zs, []⟩, ⟨1, runeV ys, false, []⟩)
theorem inRune_any (g base : Nat) (st : Int) (q : Bool) (A : Option Addr) (na ca : Nat) (zs : List Int) (B : Option Addr) (nB cB : Nat) (ys : List Int) (w : World) (hT : TabsB base w) (h : Par w base g ⟨st, q, zs, []⟩ A na ca none 0 0) (hB : Own w base B nB cB ys) (hr : Rng ys) (hn : nB ≤ 1000) :
    Calls Tryd.prog 107 #[.pointer (some ⟨g, 0, none⟩), .slice B nB cB] w (Ans w base g A na ca B nB cB (runeOut st q zs ys).1 (runeOut st q zs ys).2) := by
  cases hb : begB ys with
  | true =>
    have e : runeOut st q zs ys = (⟨st, q, zs, ys⟩, az) := by unfold runeOut; rw [hb]; rfl
    rw [e]; exact inRune_beg g base st q A na ca zs B nB cB ys w hT h hB hr hn hb
  | false =>
    have e : runeOut st q zs ys = (⟨st, q, zs, []⟩, ⟨1, runeV ys, false, []⟩) := by unfold runeOut; rw [hb]; rfl
    rw [e]
    by_cases hrd : (rdV ys 0).2 = (ys.length : Int)
    · exact inRune_eq g base st q A na ca zs B nB cB ys w hT h hB hr hn hb hrd
    · exact inRune_ne g base st q A na ca zs B nB cB ys w hT h hB hr hn hb hrd
set_option maxRecDepth 100000 in
set_option maxHeartbeats 1600000 in
theorem inText_ctl (g base : Nat) (q : Bool) (A : Option Addr) (na ca : Nat) (zs : List Int) (bs : List Int) (Q : Option Addr) (np cp : Nat) (b : Int) (w : World) (hT : TabsB base w) (h : Par w base g ⟨0, q, zs, bs⟩ A na ca Q np cp) (hb : base ≤ w.heap.size) (hbg : base ≤ g) (hr : Rng bs) (hn : np ≤ 100) (h0 : 0 ≤ b) (h1 : b ≤ 255) (hc : b < 32 ∨ b = 127) :
    Calls Tryd.prog 91 #[.pointer (some ⟨g, 0, none⟩), .int .i64 b] w (Ans w base g A na ca Q np cp ⟨0, q, zs, []⟩ ⟨2, b, false, []⟩) := by
  have hg := h.bx.lt
  obtain ⟨⟨y0, y1, y2, y3, y4⟩, z0, z1, z2, z3, z4⟩ := h.cells
  have HM := Lib.hid (mth_part (ys := []) h (own_nil _ _))
  have HM2 := Lib.hid (show Mth w base g A na ca Q np cp ⟨0, q, zs, []⟩ (.returned (.tuple #[])) (w.setCell ⟨g, 3, none⟩ (.slice none 0 0)) from by
    obtain ⟨A', na', ca', P', np', cp', h1, h2, h3, h4, h5⟩ := HM.out
    exact ⟨A', na', ca', P', np', cp', h1, h2, h3, fun i hi => (h4 i hi).elim (fun h => by cases h) .inr, h5.mono fun i hi => hi.elim .inl (fun h => h.elim (fun h => .inr (.inl h)) (fun h => by cases h))⟩)
  have H := Lib.hid h
  have HC := Lib.hid (fun W : World => isControl_yes b W hc)
  clear h hc hT
  go_enter Tryd.func91, Tryd.ntmps91
  go_wp2_with fail
  refine (HC.out _).mono ?_
  rintro e w1 ⟨rfl, rfl⟩
  go_wp2_with fail
  refine bodyPost_ret (v := .agg #[.int .i64 2, .int .i64 b, .bool false, .slice none 0 0]) (by simp [results, Tryd.results91, go_sem]) rfl ?_
  exact ans_wrapG (T := fun _ => False) hg (fun i hi => (H.out.ltA i hi).2) (fun i hi => (H.out.ltP i hi).2) (Below.refl _ _) (HM2.out.ans 2 b false) (alloc_only _ _) (fun i hi => hi.elim)
set_option maxRecDepth 100000 in
set_option maxHeartbeats 1600000 in
theorem inText_rune (g base : Nat) (q : Bool) (A : Option Addr) (na ca : Nat) (zs : List Int) (bs : List Int) (Q : Option Addr) (np cp : Nat) (b : Int) (w : World) (hT : TabsB base w) (h : Par w base g ⟨0, q, zs, bs⟩ A na ca Q np cp) (hb : base ≤ w.heap.size) (hbg : base ≤ g) (hr : Rng bs) (hn : np ≤ 100) (h0 : 0 ≤ b) (h1 : b ≤ 255) (hc : 32 ≤ b) (hc2 : b < 127) :
    Calls Tryd.prog 91 #[.pointer (some ⟨g, 0, none⟩), .int .i64 b] w (Ans w base g A na ca Q np cp ⟨0, q, zs, []⟩ ⟨1, b, false, []⟩) := by
  have hg := h.bx.lt
  obtain ⟨⟨y0, y1, y2, y3, y4⟩, z0, z1, z2, z3, z4⟩ := h.cells
  have HM := Lib.hid (mth_part (ys := []) h (own_nil _ _))
  have HM2 := Lib.hid (show Mth w base g A na ca Q np cp ⟨0, q, zs, []⟩ (.returned (.tuple #[])) (w.setCell ⟨g, 3, none⟩ (.slice none 0 0)) from by
    obtain ⟨A', na', ca', P', np', cp', h1, h2, h3, h4, h5⟩ := HM.out
    exact ⟨A', na', ca', P', np', cp', h1, h2, h3, fun i hi => (h4 i hi).elim (fun h => by cases h) .inr, h5.mono fun i hi => hi.elim .inl (fun h => h.elim (fun h => .inr (.inl h)) (fun h => by cases h))⟩)
  have H := Lib.hid h
  have HC := Lib.hid (fun W : World => isControl_no b W hc (by omega))
  clear h hc hT
  go_enter Tryd.func91, Tryd.ntmps91
  go_wp2_with fail
  refine (HC.out _).mono ?_
  rintro e w1 ⟨rfl, rfl⟩
  go_wp2_with fail
  refine bodyPost_ret (v := .agg #[.int .i64 1, .int .i64 b, .bool false, .slice none 0 0]) (by simp [results, Tryd.results91, go_sem]) rfl ?_
  exact ans_wrapG (T := fun _ => False) hg (fun i hi => (H.out.ltA i hi).2) (fun i hi => (H.out.ltP i hi).2) (Below.refl _ _) (HM2.out.ans 1 b false) (alloc_only _ _) (fun i hi => hi.elim)
set_option maxRecDepth 100000 in
set_option maxHeartbeats 1600000 in
theorem inText_more (g base : Nat) (q : Bool) (A : Option Addr) (na ca : Nat) (zs : List Int) (bs : List Int) (Q : Option Addr) (np cp : Nat) (b : Int) (w : World) (hT : TabsB base w) (h : Par w base g ⟨0, q, zs, bs⟩ A na ca Q np cp) (hb : base ≤ w.heap.size) (hbg : base ≤ g) (hr : Rng bs) (hn : np ≤ 100) (h0 : 0 ≤ b) (h1 : b ≤ 255) (hc : 127 < b) :
    Calls Tryd.prog 91 #[.pointer (some ⟨g, 0, none⟩), .int .i64 b] w (Ans w base g A na ca Q np cp (runeOut 0 q zs (bs ++ [b])).1 (runeOut 0 q zs (bs ++ [b])).2) := by
  have hg := h.bx.lt
  obtain ⟨⟨y0, y1, y2, y3, y4⟩, z0, z1, z2, z3, z4⟩ := h.cells
  have HM := Lib.hid (mth_part (ys := []) h (own_nil _ _))
  have HM2 := Lib.hid (show Mth w base g A na ca Q np cp ⟨0, q, zs, []⟩ (.returned (.tuple #[])) (w.setCell ⟨g, 3, none⟩ (.slice none 0 0)) from by
    obtain ⟨A', na', ca', P', np', cp', h1, h2, h3, h4, h5⟩ := HM.out
    exact ⟨A', na', ca', P', np', cp', h1, h2, h3, fun i hi => (h4 i hi).elim (fun h => by cases h) .inr, h5.mono fun i hi => hi.elim .inl (fun h => h.elim (fun h => .inr (.inl h)) (fun h => by cases h))⟩)
  have H := Lib.hid h
  have HC := Lib.hid (fun W : World => isControl_no b W (by omega) (by omega))
  have HT := Lib.hid hT
  have hnl : ¬ b < 127 := by omega
  obtain ⟨i0, hi, hz0, hz1, hz2⟩ := info_parts Trydinfo
  have HI0 := Lib.hid hi
  have HI1 := Lib.hid hz0
  have HI2 := Lib.hid hz1
  have HI3 := Lib.hid hz2
  have HPW := Lib.hid ((par_part h (own_nil w base)).below ((Below.refl _ _).alloc (Nat.le_refl _) (.cells #[.int .i64 0, .int .i64 0, .bool false, .slice none 0 0] 53)) (Nat.le_refl _))
  have HOW := Lib.hid (show Own ((w.setCell ⟨g, 3, none⟩ (.slice none 0 0)).alloc (.cells #[.int .i64 0, .int .i64 0, .bool false, .slice none 0 0] 53)) base Q np cp bs from World.ownsRow.alloc (own_setNe h.b g 3 _ h.nP) _)
  have HON := Lib.hid (show Only (SP g A na ca Q np cp) w ((w.setCell ⟨g, 3, none⟩ (.slice none 0 0)).alloc (.cells #[.int .i64 0, .int .i64 0, .bool false, .slice none 0 0] 53)) from (Only.cell_ w g 3 _ (.inl rfl)).trans (alloc_only _ _))
  have HN := Lib.hid (show BoxA ((w.setCell ⟨g, 3, none⟩ (.slice none 0 0)).alloc (.cells #[.int .i64 0, .int .i64 0, .bool false, .slice none 0 0] 53)) w.heap.size #[.int .i64 0, .int .i64 0, .bool false, .slice none 0 0] from by have h := BoxA.new (w.setCell ⟨g, 3, none⟩ (.slice none 0 0)) #[.int .i64 0, .int .i64 0, .bool false, .slice none 0 0]; simp only [World.size_setCell] at h; exact h)
  obtain ⟨ro, hro⟩ : ∃ ro, ro = runeOut 0 q zs (bs ++ [b]) := ⟨_, rfl⟩
  rw [← hro]
  have HRO := Lib.hid hro.symm
  have HRN := Lib.hid (show Rng (bs ++ [b]) from fun z hz => (List.mem_append.1 hz).elim (hr z) (fun h => by simp at h; omega))
  have hbs := h.b.len
  clear h hc hT hi hz0 hz1 hz2 hro
  go_enter Tryd.func91, Tryd.ntmps91
  go_wp2_with fail
  refine (HC.out _).mono ?_
  rintro e w1 ⟨rfl, rfl⟩
  go_wp2_with (at_builtin; refine append_one Tryd.underlying23 HI0.out HI1.out HI2.out HI3.out rfl (by decide) rfl _ _ rfl rfl (w.heap.size + 1) (by simp) rfl HOW.out rfl (by omega) (by simp; omega) ?_)
  intro A' c' w1 ho1 hg1 hf1
  have on1 : Only (fun i => Blk Q np cp i) _ w1 := Only.grown hg1 fun i hi => hi
  have hP1 := HPW.out.only on1 H.out.nP (fun i hi h' => own_ne HPW.out.i HOW.out (by decide) i hi h') (fun i hi => (by cases hi))
  have ho2 : Own w1 base A' (np + 1) c' (bs ++ [b]) := by unfold Own; rw [bv_app]; exact ho1
  have HO1 := Lib.hid (HON.out.trans (on1.mono fun i hi => .inr (.inr hi)))
  have hz1 := on1.size
  have hx1 := HN.out.only on1 (fun h' => by have := (H.out.ltP _ h').2; omega)
  have HIR := Lib.hid (inRune_any g base 0 q A na ca zs A' (np + 1) c' (bs ++ [b]) w1 (HT.out.only HO1.out (H.out.sp hbg) hb) hP1 ho2 HRN.out (by omega))
  have HX1 := Lib.hid hx1
  have HF1 := Lib.hid hf1
  have HN1 := Lib.hid on1
  rw [HRO.out] at HIR
  clear hg1 hf1 on1 hP1 ho1 ho2 hx1 hz1
  go_wp2_with fail
  refine HIR.out.mono ?_
  rintro e w2 ⟨A9, n9, c9, P9, p9, d9, A8, n8, c8, rfl, hrest⟩
  have HA : Hid (Ans w1 base g A na ca A' (np + 1) c' ro.1 ro.2 _ w2) := Lib.hid ⟨A9, n9, c9, P9, p9, d9, A8, n8, c8, rfl, hrest⟩
  have on2 := hrest.2.2.2.2.2.2
  have hx2 := HX1.out.only on2 (fun h' => by
    rcases h' with h' | h' | h'
    · omega
    · have := (H.out.ltA _ h').2; omega
    · rcases HF1.out _ h' with h' | h'
      · have := (H.out.ltP _ h').2; omega
      · first | omega | (simp at h'; omega))
  obtain ⟨⟨x0, x1, x2, x3⟩, f0, f1, f2, f3⟩ := hx2.cells
  clear hrest on2 hx2
  go_wp2_with fail
  refine bodyPost_ret (v := .agg #[.int .i64 ro.2.k, .int .i64 ro.2.r, .bool ro.2.q, .slice A8 n8 c8]) (by simp [results, Tryd.results91, go_sem, x0, x1, x2, x3]) rfl ?_
  have hA1 := Ans.trans (a := (w.setCell ⟨g, 3, none⟩ (.slice none 0 0)).alloc (.cells #[.int .i64 0, .int .i64 0, .bool false, .slice none 0 0] 53)) (P := Q) (np := np) (cp := cp) (fun i hi => .inl hi) (fun i hi => (HF1.out i hi).imp id fun h => by simp; omega) (HN1.out.mono fun i hi => .inr (.inr hi)) HA.out
  exact ans_wrapO hg (fun i hi => (H.out.ltA i hi).2) (fun i hi => (H.out.ltP i hi).2) HON.out hA1 (put4 w2 w.heap.size _ _ _ _) (fun i hi => by subst hi; exact ⟨Nat.le_refl _, by simp⟩)
end Go.Proofs.YtfdbmhelcmifoaaDoor.Vp
