/- The program's parser: behind an escape, in a sequence, in a skipped one. -/
import Derived.Test.YtfdbmhelcmifoaaDoorVpT
namespace Go.Proofs.YtfdbmhelcmifoaaDoor.Vp
open Go.RowKit Go.Proofs.YtfdbmhelcmifoaaDoor.Bytes Go.Proofs.YtfdbmhelcmifoaaDoor.DOk Go.Proofs.YtfdbmhelcmifoaaDoor.Rune Go.Proofs.YtfdbmhelcmifoaaDoor.RowK Go.Proofs.YtfdbmhelcmifoaaDoor.Gr
set_option linter.unusedVariables false
attribute [local go_sem ↓] Go.wp_at_zero Go.wp_at_succ
set_option maxRecDepth 100000 in
set_option maxHeartbeats 1600000 in
theorem afterEscape_csi (g base : Nat) (q : Bool) (A : Option Addr) (na ca : Nat) (zs : List Int) (bs : List Int) (Q : Option Addr) (np cp : Nat) (b : Int) (w : World) (h : Par w base g ⟨1, q, zs, bs⟩ A na ca Q np cp) (hb : b = 91) :
    Calls Tryd.prog 88 #[.pointer (some ⟨g, 0, none⟩), .int .i64 b] w (Ans w base g A na ca Q np cp ⟨2, false, [], []⟩ az) := by
  subst hb
  have hg := h.bx.lt
  have hAl : ∀ i, Blk A na ca i → i < w.heap.size := fun i hi => (h.ltA i hi).2
  have hPl : ∀ i, Blk Q np cp i → i < w.heap.size := fun i hi => (h.ltP i hi).2
  have HW0 := Lib.hid (show Below w.heap.size w (w.alloc (.cells #[.int .i64 0, .int .i64 0, .bool false, .slice none 0 0] 53)) from (Below.refl _ _).alloc (Nat.le_refl _) _)
  have HN := Lib.hid (BoxA.new w #[.int .i64 0, .int .i64 0, .bool false, .slice none 0 0])
  have HP0 := Lib.hid (h.below HW0.out (Nat.le_refl _))
  have H := Lib.hid h
  clear h
  go_enter Tryd.func88, Tryd.ntmps88
  go_wp2_with fail
  refine (become_2 g _ _ _ _ _ false none 0 0 none 0 0 _ HP0.out.bx).mono ?_
  rintro e w1 ⟨rfl, hb1, hb2⟩
  have hb : Bec g 2 false none 0 0 none 0 0 _ _ w1 := ⟨rfl, hb1, hb2⟩
  have HM := Lib.hid (mth_bez HP0.out hb (Only.refl _ _))
  have ha := HN.out.only hb2 (fun e => by omega)
  obtain ⟨⟨x0, x1, x2, x3⟩, f0, f1, f2, f3⟩ := ha.cells
  clear hb hb1 hb2 ha
  go_wp2_with fail
  refine bodyPost_ret (v := .agg #[.int .i64 0, .int .i64 0, .bool false, .slice none 0 0]) (by simp [results, Tryd.results88, go_sem, x0, x1, x2, x3]) rfl ?_
  exact ans_wrapG hg hAl hPl HW0.out (HM.out.ans 0 0 false) (put4 w1 w.heap.size _ _ _ _) (fun i hi => by subst hi; exact ⟨Nat.le_refl _, by simp⟩)
set_option maxRecDepth 100000 in
set_option maxHeartbeats 1600000 in
theorem afterEscape_esc (g base : Nat) (q : Bool) (A : Option Addr) (na ca : Nat) (zs : List Int) (bs : List Int) (Q : Option Addr) (np cp : Nat) (b : Int) (w : World) (h : Par w base g ⟨1, q, zs, bs⟩ A na ca Q np cp) (hb : b ≠ 91) (hl : 48 ≤ b) (hu : b ≤ 126) :
    Calls Tryd.prog 88 #[.pointer (some ⟨g, 0, none⟩), .int .i64 b] w (Ans w base g A na ca Q np cp vz ⟨3, b, false, []⟩) := by
  have hg := h.bx.lt
  have hAl : ∀ i, Blk A na ca i → i < w.heap.size := fun i hi => (h.ltA i hi).2
  have hPl : ∀ i, Blk Q np cp i → i < w.heap.size := fun i hi => (h.ltP i hi).2
  have HW0 := Lib.hid (show Below w.heap.size w (w.alloc (.cells #[.int .i64 0, .int .i64 0, .bool false, .slice none 0 0] 53)) from (Below.refl _ _).alloc (Nat.le_refl _) _)
  have HN := Lib.hid (BoxA.new w #[.int .i64 0, .int .i64 0, .bool false, .slice none 0 0])
  have HP0 := Lib.hid (h.below HW0.out (Nat.le_refl _))
  have H := Lib.hid h
  have HC := Lib.hid (fun W : World => endsEsc_yes b W hl hu)
  have hb' : (b == 91) = false := by simpa using hb
  clear h hb hl hu
  go_enter Tryd.func88, Tryd.ntmps88
  go_wp2_with fail
  refine (become_0 g _ _ _ _ _ false none 0 0 none 0 0 _ HP0.out.bx).mono ?_
  rintro e w1 ⟨rfl, hb1, hb2⟩
  have hb : Bec g 0 false none 0 0 none 0 0 _ _ w1 := ⟨rfl, hb1, hb2⟩
  have HM := Lib.hid (mth_bez HP0.out hb (Only.refl _ _))
  have ha := HN.out.only hb2 (fun e => by omega)
  obtain ⟨⟨x0, x1, x2, x3⟩, f0, f1, f2, f3⟩ := ha.cells
  clear hb hb1 hb2 ha
  go_wp2_with fail
  refine (HC.out _).mono ?_
  rintro e w9 ⟨rfl, rfl⟩
  go_wp2_with fail
  refine bodyPost_ret (v := .agg #[.int .i64 3, .int .i64 b, .bool false, .slice none 0 0]) (by simp [results, Tryd.results88, go_sem, x0, x1, x2, x3]) rfl ?_
  exact ans_wrapG hg hAl hPl HW0.out (HM.out.ans 3 b false) (put4 w1 w.heap.size _ _ _ _) (fun i hi => by subst hi; exact ⟨Nat.le_refl _, by simp⟩)
set_option maxRecDepth 100000 in
set_option maxHeartbeats 1600000 in
theorem afterEscape_no (g base : Nat) (q : Bool) (A : Option Addr) (na ca : Nat) (zs : List Int) (bs : List Int) (Q : Option Addr) (np cp : Nat) (b : Int) (w : World) (h : Par w base g ⟨1, q, zs, bs⟩ A na ca Q np cp) (hb : b ≠ 91) (hl : ¬ (48 ≤ b ∧ b ≤ 126)) :
    Calls Tryd.prog 88 #[.pointer (some ⟨g, 0, none⟩), .int .i64 b] w (Ans w base g A na ca Q np cp vz az) := by
  have hg := h.bx.lt
  have hAl : ∀ i, Blk A na ca i → i < w.heap.size := fun i hi => (h.ltA i hi).2
  have hPl : ∀ i, Blk Q np cp i → i < w.heap.size := fun i hi => (h.ltP i hi).2
  have HW0 := Lib.hid (show Below w.heap.size w (w.alloc (.cells #[.int .i64 0, .int .i64 0, .bool false, .slice none 0 0] 53)) from (Below.refl _ _).alloc (Nat.le_refl _) _)
  have HN := Lib.hid (BoxA.new w #[.int .i64 0, .int .i64 0, .bool false, .slice none 0 0])
  have HP0 := Lib.hid (h.below HW0.out (Nat.le_refl _))
  have H := Lib.hid h
  have HC := Lib.hid (fun W : World => endsEsc_no b W hl)
  have hb' : (b == 91) = false := by simpa using hb
  clear h hb hl
  go_enter Tryd.func88, Tryd.ntmps88
  go_wp2_with fail
  refine (become_0 g _ _ _ _ _ false none 0 0 none 0 0 _ HP0.out.bx).mono ?_
  rintro e w1 ⟨rfl, hb1, hb2⟩
  have hb : Bec g 0 false none 0 0 none 0 0 _ _ w1 := ⟨rfl, hb1, hb2⟩
  have HM := Lib.hid (mth_bez HP0.out hb (Only.refl _ _))
  have ha := HN.out.only hb2 (fun e => by omega)
  obtain ⟨⟨x0, x1, x2, x3⟩, f0, f1, f2, f3⟩ := ha.cells
  clear hb hb1 hb2 ha
  go_wp2_with fail
  refine (HC.out _).mono ?_
  rintro e w9 ⟨rfl, rfl⟩
  go_wp2_with fail
  refine bodyPost_ret (v := .agg #[.int .i64 0, .int .i64 0, .bool false, .slice none 0 0]) (by simp [results, Tryd.results88, go_sem, x0, x1, x2, x3]) rfl ?_
  exact ans_wrapG hg hAl hPl HW0.out (HM.out.ans 0 0 false) (put4 w1 w.heap.size _ _ _ _) (fun i hi => by subst hi; exact ⟨Nat.le_refl _, by simp⟩)
set_option maxRecDepth 100000 in
set_option maxHeartbeats 1600000 in
theorem inSkipped_end (g base : Nat) (q : Bool) (A : Option Addr) (na ca : Nat) (zs : List Int) (bs : List Int) (Q : Option Addr) (np cp : Nat) (b : Int) (w : World) (h : Par w base g ⟨3, q, zs, bs⟩ A na ca Q np cp) (hl : 64 ≤ b) (hu : b ≤ 126) :
    Calls Tryd.prog 90 #[.pointer (some ⟨g, 0, none⟩), .int .i64 b] w (Ans w base g A na ca Q np cp vz az) := by
  have hg := h.bx.lt
  have hAl : ∀ i, Blk A na ca i → i < w.heap.size := fun i hi => (h.ltA i hi).2
  have hPl : ∀ i, Blk Q np cp i → i < w.heap.size := fun i hi => (h.ltP i hi).2
  have HW0 := Lib.hid (show Below w.heap.size w (w.alloc (.cells #[.int .i64 0, .int .i64 0, .bool false, .slice none 0 0] 53)) from (Below.refl _ _).alloc (Nat.le_refl _) _)
  have HN := Lib.hid (BoxA.new w #[.int .i64 0, .int .i64 0, .bool false, .slice none 0 0])
  have HP0 := Lib.hid (h.below HW0.out (Nat.le_refl _))
  have H := Lib.hid h
  have HC := Lib.hid (fun W : World => endsCsi_yes b W hl hu)
  clear h hl hu
  go_enter Tryd.func90, Tryd.ntmps90
  go_wp2_with fail
  refine (HC.out _).mono ?_
  rintro e w9 ⟨rfl, rfl⟩
  go_wp2_with fail
  refine (become_0 g _ _ _ _ _ false none 0 0 none 0 0 _ HP0.out.bx).mono ?_
  rintro e w1 ⟨rfl, hb1, hb2⟩
  have hb : Bec g 0 false none 0 0 none 0 0 _ _ w1 := ⟨rfl, hb1, hb2⟩
  have HM := Lib.hid (mth_bez HP0.out hb (Only.refl _ _))
  have ha := HN.out.only hb2 (fun e => by omega)
  obtain ⟨⟨x0, x1, x2, x3⟩, f0, f1, f2, f3⟩ := ha.cells
  clear hb hb1 hb2 ha
  go_wp2_with fail
  refine bodyPost_ret (v := .agg #[.int .i64 0, .int .i64 0, .bool false, .slice none 0 0]) (by simp [results, Tryd.results90, go_sem, x0, x1, x2, x3]) rfl ?_
  exact ans_wrapG hg hAl hPl HW0.out (HM.out.ans 0 0 false) (put4 w1 w.heap.size _ _ _ _) (fun i hi => by subst hi; exact ⟨Nat.le_refl _, by simp⟩)
set_option maxRecDepth 100000 in
set_option maxHeartbeats 1600000 in
theorem inSkipped_on (g base : Nat) (q : Bool) (A : Option Addr) (na ca : Nat) (zs : List Int) (bs : List Int) (Q : Option Addr) (np cp : Nat) (b : Int) (w : World) (h : Par w base g ⟨3, q, zs, bs⟩ A na ca Q np cp) (hl : ¬ (64 ≤ b ∧ b ≤ 126)) :
    Calls Tryd.prog 90 #[.pointer (some ⟨g, 0, none⟩), .int .i64 b] w (Ans w base g A na ca Q np cp ⟨3, q, zs, bs⟩ ⟨0, 0, false, []⟩) := by
  have hg := h.bx.lt
  have hAl : ∀ i, Blk A na ca i → i < w.heap.size := fun i hi => (h.ltA i hi).2
  have hPl : ∀ i, Blk Q np cp i → i < w.heap.size := fun i hi => (h.ltP i hi).2
  have HW0 := Lib.hid (show Below w.heap.size w (w.alloc (.cells #[.int .i64 0, .int .i64 0, .bool false, .slice none 0 0] 53)) from (Below.refl _ _).alloc (Nat.le_refl _) _)
  have HN := Lib.hid (BoxA.new w #[.int .i64 0, .int .i64 0, .bool false, .slice none 0 0])
  have HP0 := Lib.hid (h.below HW0.out (Nat.le_refl _))
  have H := Lib.hid h
  have HC0 := Lib.hid (fun W : World => endsCsi_no b W hl)
  clear h hl
  go_enter Tryd.func90, Tryd.ntmps90
  go_wp2_with fail
  refine (HC0.out _).mono ?_
  rintro e w9 ⟨rfl, rfl⟩
  go_wp2_with fail
  refine bodyPost_ret (v := .agg #[.int .i64 0, .int .i64 0, .bool false, .slice none 0 0]) (by simp [results, Tryd.results90, go_sem]) rfl ?_
  exact ans_wrapG (T := fun _ => False) hg hAl hPl (Below.refl _ _) ((mth_refl H.out).ans 0 0 false) (alloc_only _ _) (fun i hi => hi.elim)
set_option maxRecDepth 100000 in
set_option maxHeartbeats 1600000 in
theorem inSequence_ctl (g base : Nat) (q : Bool) (A : Option Addr) (na ca : Nat) (zs : List Int) (bs : List Int) (Q : Option Addr) (np cp : Nat) (b : Int) (w : World) (h : Par w base g ⟨2, q, zs, bs⟩ A na ca Q np cp) (hc : b < 32 ∨ b = 127) :
    Calls Tryd.prog 89 #[.pointer (some ⟨g, 0, none⟩), .int .i64 b] w (Ans w base g A na ca Q np cp ⟨2, q, zs, bs⟩ ⟨2, b, false, []⟩) := by
  have hg := h.bx.lt
  have hAl : ∀ i, Blk A na ca i → i < w.heap.size := fun i hi => (h.ltA i hi).2
  have hPl : ∀ i, Blk Q np cp i → i < w.heap.size := fun i hi => (h.ltP i hi).2
  have HW0 := Lib.hid (show Below w.heap.size w (w.alloc (.cells #[.int .i64 0, .int .i64 0, .bool false, .slice none 0 0] 53)) from (Below.refl _ _).alloc (Nat.le_refl _) _)
  have HN := Lib.hid (BoxA.new w #[.int .i64 0, .int .i64 0, .bool false, .slice none 0 0])
  have HP0 := Lib.hid (h.below HW0.out (Nat.le_refl _))
  have H := Lib.hid h
  have HC0 := Lib.hid (fun W : World => isDigit_no b W (by omega))
  have HC1 := Lib.hid (fun W : World => endsCsi_no b W (by omega))
  have HC2 := Lib.hid (fun W : World => isControl_yes b W hc)
  have n63 : (b == 63) = false := by simp; omega
  have n59 : (b == 59) = false := by simp; omega
  clear h hc
  go_enter Tryd.func89, Tryd.ntmps89
  go_wp2_with fail
  refine (HC0.out _).mono ?_
  rintro e w9 ⟨rfl, rfl⟩
  go_wp2_with fail
  refine (HC1.out _).mono ?_
  rintro e w9 ⟨rfl, rfl⟩
  go_wp2_with fail
  refine (HC2.out _).mono ?_
  rintro e w9 ⟨rfl, rfl⟩
  go_wp2_with fail
  refine bodyPost_ret (v := .agg #[.int .i64 2, .int .i64 b, .bool false, .slice none 0 0]) (by simp [results, Tryd.results89, go_sem]) rfl ?_
  exact ans_wrapG (T := fun _ => False) hg hAl hPl (Below.refl _ _) ((mth_refl H.out).ans 2 b false) (alloc_only _ _) (fun i hi => hi.elim)
theorem mth_mark {w : World} {base g : Nat} {st : Int} {q : Bool} {zs bs : List Int} {A : Option Addr} {na ca : Nat} {P : Option Addr} {np cp : Nat} (h : Par w base g ⟨st, q, zs, bs⟩ A na ca P np cp) :
    Mth w base g A na ca P np cp ⟨st, true, zs, bs⟩ (.returned (.tuple #[])) (w.setCell ⟨g, 1, none⟩ (.bool true)) := by
  have hx : BoxP w g #[.int .i64 st, .bool q, .slice A na ca, .slice P np cp, fnOf g st] := h.bx
  exact ⟨A, na, ca, P, np, cp, rfl, ⟨hx.set1 _, own_setNe h.i g 1 _ h.nA, own_setNe h.b g 1 _ h.nP⟩, fun i hi => .inl hi, fun i hi => .inl hi, Only.cell_ w g 1 _ (.inl rfl)⟩
theorem addDigit_any (g base : Nat) (st : Int) (mk : Bool) (A : Option Addr) (na ca : Nat) (zs bs : List Int) (P : Option Addr) (np cp : Nat) (d : Int) (w : World) (h : Par w base g ⟨st, mk, zs, bs⟩ A na ca P np cp) (hb : base ≤ w.heap.size) (h8 : na ≤ 8) (h0 : 0 ≤ d) (h1 : d ≤ 9) (hz : ∀ z ∈ zs, 0 ≤ z ∧ z ≤ 9999) :
    Calls Tryd.prog 101 #[.pointer (some ⟨g, 0, none⟩), .int .i64 d] w (Mth w base g A na ca P np cp ⟨st, mk, digV zs d, bs⟩) := by
  by_cases hn : na = 0
  · subst hn; exact addDigit_0 g base st mk A ca zs bs P np cp d w h hb h0 h1
  · obtain ⟨ga, rfl⟩ := own_addr h.i (by omega)
    have hbd := getD_mem_bd hz (na - 1)
    exact addDigit_1 g base st mk ga na ca zs bs P np cp d w h hb hn h8 h0 h1 _ hbd.1 hbd.2 rfl
def sepV (q : Bool) (zs bs : List Int) : VS := if zs.length = 8 then ⟨3, q, zs, []⟩ else ⟨2, q, argV zs, bs⟩
theorem addArg_any (g base : Nat) (mk : Bool) (A : Option Addr) (na ca : Nat) (zs bs : List Int) (P : Option Addr) (np cp : Nat) (w : World) (h : Par w base g ⟨2, mk, zs, bs⟩ A na ca P np cp) (hb : base ≤ w.heap.size) (h8 : na ≤ 8) :
    Calls Tryd.prog 102 #[.pointer (some ⟨g, 0, none⟩)] w (Mth w base g A na ca P np cp (sepV mk zs bs)) := by
  have hl : zs.length = na := h.i.len
  unfold sepV
  rw [hl]
  by_cases h9 : na = 8
  · subst h9; rw [if_pos rfl]; exact addArg_8 g base 2 mk A ca zs bs P np cp w h
  · rw [if_neg h9]
    by_cases h0 : na = 0
    · subst h0; exact addArg_0 g base 2 mk A ca zs bs P np cp w h hb
    · exact addArg_n g base 2 mk A na ca zs bs P np cp w h hb (by omega) (by omega)
set_option maxRecDepth 100000 in
set_option maxHeartbeats 1600000 in
theorem inSequence_mark (g base : Nat) (q : Bool) (A : Option Addr) (na ca : Nat) (zs : List Int) (bs : List Int) (Q : Option Addr) (np cp : Nat) (b : Int) (w : World) (h : Par w base g ⟨2, q, zs, bs⟩ A na ca Q np cp) (hb : b = 63) (hp : hpB q na = false) :
    Calls Tryd.prog 89 #[.pointer (some ⟨g, 0, none⟩), .int .i64 b] w (Ans w base g A na ca Q np cp ⟨2, true, zs, bs⟩ az) := by
  subst hb
  have hg := h.bx.lt
  have hAl : ∀ i, Blk A na ca i → i < w.heap.size := fun i hi => (h.ltA i hi).2
  have hPl : ∀ i, Blk Q np cp i → i < w.heap.size := fun i hi => (h.ltP i hi).2
  have HW0 := Lib.hid (show Below w.heap.size w (w.alloc (.cells #[.int .i64 0, .int .i64 0, .bool false, .slice none 0 0] 53)) from (Below.refl _ _).alloc (Nat.le_refl _) _)
  have HN := Lib.hid (BoxA.new w #[.int .i64 0, .int .i64 0, .bool false, .slice none 0 0])
  have HP0 := Lib.hid (h.below HW0.out (Nat.le_refl _))
  have H := Lib.hid h
  obtain ⟨⟨y0, y1, y2, y3, y4⟩, z0, z1, z2, z3, z4⟩ := h.cells
  have HC := Lib.hid (fun W : World => by have h := hasParameters_any 2 q A na ca Q np cp W; rw [hp] at h; exact h)
  clear h hp
  go_enter Tryd.func89, Tryd.ntmps89
  go_wp2_with fail
  refine (HC.out _).mono ?_
  rintro e w1 ⟨rfl, hb1⟩
  have HW1 := Lib.hid (HW0.out.trans (hb1.mono (by simp)))
  have HP1 := Lib.hid (H.out.below HW1.out (Nat.le_refl _))
  have ha := HN.out.below hb1 (by simp)
  have hs1 : w.heap.size < w1.heap.size := by have := hb1.size; simp at this; omega
  clear y0 y1 y2 y3 y4 z0 z1 z2 z3 z4
  obtain ⟨⟨x0, x1, x2, x3⟩, f0, f1, f2, f3⟩ := ha.cells
  obtain ⟨⟨y0, y1, y2, y3, y4⟩, z0, z1, z2, z3, z4⟩ := HP1.out.cells
  clear hb1
  go_wp2_with fail
  refine bodyPost_ret (v := .agg #[.int .i64 0, .int .i64 0, .bool false, .slice none 0 0]) (by simp [results, Tryd.results89, go_sem, x0, x1, x2, x3]) rfl ?_
  exact ans_wrapG hg hAl hPl HW1.out ((mth_mark HP1.out).ans 0 0 false) (put4 _ w.heap.size _ _ _ _) (fun i hi => by subst hi; exact ⟨Nat.le_refl _, hs1⟩)
set_option maxRecDepth 100000 in
set_option maxHeartbeats 1600000 in
theorem inSequence_digit (g base : Nat) (q : Bool) (A : Option Addr) (na ca : Nat) (zs : List Int) (bs : List Int) (Q : Option Addr) (np cp : Nat) (b : Int) (w : World) (h : Par w base g ⟨2, q, zs, bs⟩ A na ca Q np cp) (hbs : base ≤ w.heap.size) (hz : ∀ z ∈ zs, 0 ≤ z ∧ z ≤ 9999) (h8 : na ≤ 8) (hl : 48 ≤ b) (hu : b ≤ 57) :
    Calls Tryd.prog 89 #[.pointer (some ⟨g, 0, none⟩), .int .i64 b] w (Ans w base g A na ca Q np cp ⟨2, q, digV zs (b - 48), bs⟩ az) := by
  have hg := h.bx.lt
  have hAl : ∀ i, Blk A na ca i → i < w.heap.size := fun i hi => (h.ltA i hi).2
  have hPl : ∀ i, Blk Q np cp i → i < w.heap.size := fun i hi => (h.ltP i hi).2
  have HW0 := Lib.hid (show Below w.heap.size w (w.alloc (.cells #[.int .i64 0, .int .i64 0, .bool false, .slice none 0 0] 53)) from (Below.refl _ _).alloc (Nat.le_refl _) _)
  have HN := Lib.hid (BoxA.new w #[.int .i64 0, .int .i64 0, .bool false, .slice none 0 0])
  have HP0 := Lib.hid (h.below HW0.out (Nat.le_refl _))
  have H := Lib.hid h
  have HC0 := Lib.hid (fun W : World => isDigit_yes b W hl hu)
  have n63 : (b == 63) = false := by simp; omega
  have HX := Lib.hid (addDigit_any g base 2 q A na ca zs bs Q np cp (b - 48) _ HP0.out (by simp; omega) h8 (by omega) (by omega) hz)
  clear h hz
  go_enter Tryd.func89, Tryd.ntmps89
  go_wp2_with fail
  refine (HC0.out _).mono ?_
  rintro e w9 ⟨rfl, rfl⟩
  go_wp2_with fail
  refine HX.out.mono ?_
  rintro e w2 ⟨A9, n9, c9, P9, p9, d9, rfl, hrest⟩
  have HM : Hid (Mth _ base g A na ca Q np cp ⟨2, q, digV zs (b - 48), bs⟩ _ w2) := Lib.hid ⟨A9, n9, c9, P9, p9, d9, rfl, hrest⟩
  have ha := HN.out.only hrest.2.2.2 (fun h' => by
    rcases h' with h' | h' | h'
    · omega
    · have := hAl _ h'; omega
    · have := hPl _ h'; omega)
  obtain ⟨⟨x0, x1, x2, x3⟩, f0, f1, f2, f3⟩ := ha.cells
  clear hrest ha
  go_wp2_with fail
  refine bodyPost_ret (v := .agg #[.int .i64 0, .int .i64 0, .bool false, .slice none 0 0]) (by simp [results, Tryd.results89, go_sem, x0, x1, x2, x3]) rfl ?_
  exact ans_wrapG hg hAl hPl HW0.out (HM.out.ans 0 0 false) (put4 _ w.heap.size _ _ _ _) (fun i hi => by subst hi; exact ⟨Nat.le_refl _, by simp⟩)
set_option maxRecDepth 100000 in
set_option maxHeartbeats 1600000 in
theorem inSequence_sep (g base : Nat) (q : Bool) (A : Option Addr) (na ca : Nat) (zs : List Int) (bs : List Int) (Q : Option Addr) (np cp : Nat) (b : Int) (w : World) (h : Par w base g ⟨2, q, zs, bs⟩ A na ca Q np cp) (hbs : base ≤ w.heap.size) (h8 : na ≤ 8) (hl : b = 59) :
    Calls Tryd.prog 89 #[.pointer (some ⟨g, 0, none⟩), .int .i64 b] w (Ans w base g A na ca Q np cp (sepV q zs bs) az) := by
  have hg := h.bx.lt
  have hAl : ∀ i, Blk A na ca i → i < w.heap.size := fun i hi => (h.ltA i hi).2
  have hPl : ∀ i, Blk Q np cp i → i < w.heap.size := fun i hi => (h.ltP i hi).2
  have HW0 := Lib.hid (show Below w.heap.size w (w.alloc (.cells #[.int .i64 0, .int .i64 0, .bool false, .slice none 0 0] 53)) from (Below.refl _ _).alloc (Nat.le_refl _) _)
  have HN := Lib.hid (BoxA.new w #[.int .i64 0, .int .i64 0, .bool false, .slice none 0 0])
  have HP0 := Lib.hid (h.below HW0.out (Nat.le_refl _))
  have H := Lib.hid h
  have HC0 := Lib.hid (fun W : World => isDigit_no 59 W (by omega))
  subst hl
  have HX := Lib.hid (addArg_any g base q A na ca zs bs Q np cp _ HP0.out (by simp; omega) h8)
  clear h 
  go_enter Tryd.func89, Tryd.ntmps89
  go_wp2_with fail
  refine (HC0.out _).mono ?_
  rintro e w9 ⟨rfl, rfl⟩
  go_wp2_with fail
  refine HX.out.mono ?_
  rintro e w2 ⟨A9, n9, c9, P9, p9, d9, rfl, hrest⟩
  have HM : Hid (Mth _ base g A na ca Q np cp (sepV q zs bs) _ w2) := Lib.hid ⟨A9, n9, c9, P9, p9, d9, rfl, hrest⟩
  have ha := HN.out.only hrest.2.2.2 (fun h' => by
    rcases h' with h' | h' | h'
    · omega
    · have := hAl _ h'; omega
    · have := hPl _ h'; omega)
  obtain ⟨⟨x0, x1, x2, x3⟩, f0, f1, f2, f3⟩ := ha.cells
  clear hrest ha
  go_wp2_with fail
  refine bodyPost_ret (v := .agg #[.int .i64 0, .int .i64 0, .bool false, .slice none 0 0]) (by simp [results, Tryd.results89, go_sem, x0, x1, x2, x3]) rfl ?_
  exact ans_wrapG hg hAl hPl HW0.out (HM.out.ans 0 0 false) (put4 _ w.heap.size _ _ _ _) (fun i hi => by subst hi; exact ⟨Nat.le_refl _, by simp⟩)
set_option maxRecDepth 100000 in
set_option maxHeartbeats 1600000 in
theorem inSequence_skip (g base : Nat) (q : Bool) (A : Option Addr) (na ca : Nat) (zs : List Int) (bs : List Int) (Q : Option Addr) (np cp : Nat) (b : Int) (w : World) (h : Par w base g ⟨2, q, zs, bs⟩ A na ca Q np cp) (hbs : base ≤ w.heap.size) (n63 : (b == 63) = false) (n59 : (b == 59) = false) (hd : ¬ (48 ≤ b ∧ b ≤ 57)) (he : ¬ (64 ≤ b ∧ b ≤ 126)) (hc : 32 ≤ b) (hc2 : b ≠ 127) :
    Calls Tryd.prog 89 #[.pointer (some ⟨g, 0, none⟩), .int .i64 b] w (Ans w base g A na ca Q np cp ⟨3, q, zs, []⟩ az) := by
  have hg := h.bx.lt
  have hAl : ∀ i, Blk A na ca i → i < w.heap.size := fun i hi => (h.ltA i hi).2
  have hPl : ∀ i, Blk Q np cp i → i < w.heap.size := fun i hi => (h.ltP i hi).2
  have HW0 := Lib.hid (show Below w.heap.size w (w.alloc (.cells #[.int .i64 0, .int .i64 0, .bool false, .slice none 0 0] 53)) from (Below.refl _ _).alloc (Nat.le_refl _) _)
  have HN := Lib.hid (BoxA.new w #[.int .i64 0, .int .i64 0, .bool false, .slice none 0 0])
  have HP0 := Lib.hid (h.below HW0.out (Nat.le_refl _))
  have H := Lib.hid h
  have HC0 := Lib.hid (fun W : World => isDigit_no b W hd)
  have HC1 := Lib.hid (fun W : World => endsCsi_no b W he)
  have HC2 := Lib.hid (fun W : World => isControl_no b W hc hc2)
  have HX := Lib.hid (skip_any g base 2 q A na ca zs bs Q np cp _ HP0.out)
  clear h hd he hc hc2
  go_enter Tryd.func89, Tryd.ntmps89
  go_wp2_with fail
  refine (HC0.out _).mono ?_
  rintro e w9 ⟨rfl, rfl⟩
  go_wp2_with fail
  refine (HC1.out _).mono ?_
  rintro e w9 ⟨rfl, rfl⟩
  go_wp2_with fail
  refine (HC2.out _).mono ?_
  rintro e w9 ⟨rfl, rfl⟩
  go_wp2_with fail
  refine HX.out.mono ?_
  rintro e w2 ⟨A9, n9, c9, P9, p9, d9, rfl, hrest⟩
  have HM : Hid (Mth _ base g A na ca Q np cp ⟨3, q, zs, []⟩ _ w2) := Lib.hid ⟨A9, n9, c9, P9, p9, d9, rfl, hrest⟩
  have ha := HN.out.only hrest.2.2.2 (fun h' => by
    rcases h' with h' | h' | h'
    · omega
    · have := hAl _ h'; omega
    · have := hPl _ h'; omega)
  obtain ⟨⟨x0, x1, x2, x3⟩, f0, f1, f2, f3⟩ := ha.cells
  clear hrest ha
  go_wp2_with fail
  refine bodyPost_ret (v := .agg #[.int .i64 0, .int .i64 0, .bool false, .slice none 0 0]) (by simp [results, Tryd.results89, go_sem, x0, x1, x2, x3]) rfl ?_
  exact ans_wrapG hg hAl hPl HW0.out (HM.out.ans 0 0 false) (put4 _ w.heap.size _ _ _ _) (fun i hi => by subst hi; exact ⟨Nat.le_refl _, by simp⟩)
set_option maxRecDepth 100000 in
set_option maxHeartbeats 1600000 in
theorem inSequence_mark2 (g base : Nat) (q : Bool) (A : Option Addr) (na ca : Nat) (zs : List Int) (bs : List Int) (Q : Option Addr) (np cp : Nat) (b : Int) (w : World) (h : Par w base g ⟨2, q, zs, bs⟩ A na ca Q np cp) (hb : b = 63) (hp : hpB q na = true) :
    Calls Tryd.prog 89 #[.pointer (some ⟨g, 0, none⟩), .int .i64 b] w (Ans w base g A na ca Q np cp ⟨3, q, zs, []⟩ az) := by
  subst hb
  have hg := h.bx.lt
  have hAl : ∀ i, Blk A na ca i → i < w.heap.size := fun i hi => (h.ltA i hi).2
  have hPl : ∀ i, Blk Q np cp i → i < w.heap.size := fun i hi => (h.ltP i hi).2
  have HW0 := Lib.hid (show Below w.heap.size w (w.alloc (.cells #[.int .i64 0, .int .i64 0, .bool false, .slice none 0 0] 53)) from (Below.refl _ _).alloc (Nat.le_refl _) _)
  have HN := Lib.hid (BoxA.new w #[.int .i64 0, .int .i64 0, .bool false, .slice none 0 0])
  have HP0 := Lib.hid (h.below HW0.out (Nat.le_refl _))
  have H := Lib.hid h
  have HC := Lib.hid (fun W : World => by have h := hasParameters_any 2 q A na ca Q np cp W; rw [hp] at h; exact h)
  have HC0 := Lib.hid (fun W : World => isDigit_no 63 W (by omega))
  have HC1 := Lib.hid (fun W : World => endsCsi_no 63 W (by omega))
  have HC2 := Lib.hid (fun W : World => isControl_no 63 W (by omega) (by omega))
  obtain ⟨⟨y0, y1, y2, y3, y4⟩, z0, z1, z2, z3, z4⟩ := h.cells
  clear h hp
  go_enter Tryd.func89, Tryd.ntmps89
  go_wp2_with fail
  refine (HC.out _).mono ?_
  rintro e w1 ⟨rfl, hb1⟩
  have HW1 := Lib.hid (HW0.out.trans (hb1.mono (by simp)))
  have HP1 := Lib.hid (H.out.below HW1.out (Nat.le_refl _))
  have ha := HN.out.below hb1 (by simp)
  have hs1 : w.heap.size < w1.heap.size := by have := hb1.size; simp at this; omega
  clear y0 y1 y2 y3 y4 z0 z1 z2 z3 z4
  obtain ⟨⟨x0, x1, x2, x3⟩, f0, f1, f2, f3⟩ := ha.cells
  obtain ⟨⟨y0, y1, y2, y3, y4⟩, z0, z1, z2, z3, z4⟩ := HP1.out.cells
  clear hb1
  have HNW := Lib.hid ha
  have HX := Lib.hid (skip_any g base 2 q A na ca zs bs Q np cp _ HP1.out)
  clear ha y0 y1 y2 y3 y4 z0 z1 z2 z3 z4 x0 x1 x2 x3 f0 f1 f2 f3
  go_wp2_with fail
  refine (HC0.out _).mono ?_
  rintro e w9 ⟨rfl, rfl⟩
  go_wp2_with fail
  refine (HC1.out _).mono ?_
  rintro e w9 ⟨rfl, rfl⟩
  go_wp2_with fail
  refine (HC2.out _).mono ?_
  rintro e w9 ⟨rfl, rfl⟩
  go_wp2_with fail
  refine HX.out.mono ?_
  rintro e w2 ⟨A9, n9, c9, P9, p9, d9, rfl, hrest⟩
  have HM : Hid (Mth w1 base g A na ca Q np cp ⟨3, q, zs, []⟩ _ w2) := Lib.hid ⟨A9, n9, c9, P9, p9, d9, rfl, hrest⟩
  have ha := HNW.out.only hrest.2.2.2 (fun h' => by
    rcases h' with h' | h' | h'
    · omega
    · have := hAl _ h'; omega
    · have := hPl _ h'; omega)
  obtain ⟨⟨x0, x1, x2, x3⟩, f0, f1, f2, f3⟩ := ha.cells
  clear hrest ha
  go_wp2_with fail
  refine bodyPost_ret (v := .agg #[.int .i64 0, .int .i64 0, .bool false, .slice none 0 0]) (by simp [results, Tryd.results89, go_sem, x0, x1, x2, x3]) rfl ?_
  exact ans_wrapG hg hAl hPl HW1.out (HM.out.ans 0 0 false) (put4 _ w.heap.size _ _ _ _) (fun i hi => by subst hi; exact ⟨Nat.le_refl _, hs1⟩)
set_option maxRecDepth 100000 in
set_option maxHeartbeats 1600000 in
theorem inSequence_end (g base : Nat) (q : Bool) (A : Option Addr) (na ca : Nat) (zs : List Int) (bs : List Int) (Q : Option Addr) (np cp : Nat) (b : Int) (w : World) (h : Par w base g ⟨2, q, zs, bs⟩ A na ca Q np cp) (hl : 64 ≤ b) (hu : b ≤ 126) :
    Calls Tryd.prog 89 #[.pointer (some ⟨g, 0, none⟩), .int .i64 b] w (Ans w base g A na ca Q np cp vz ⟨4, b, q, zs⟩) := by
  have hg := h.bx.lt
  have hAl : ∀ i, Blk A na ca i → i < w.heap.size := fun i hi => (h.ltA i hi).2
  have hPl : ∀ i, Blk Q np cp i → i < w.heap.size := fun i hi => (h.ltP i hi).2
  have HW0 := Lib.hid (show Below w.heap.size w (w.alloc (.cells #[.int .i64 0, .int .i64 0, .bool false, .slice none 0 0] 53)) from (Below.refl _ _).alloc (Nat.le_refl _) _)
  have HN := Lib.hid (BoxA.new w #[.int .i64 0, .int .i64 0, .bool false, .slice none 0 0])
  have HP0 := Lib.hid (h.below HW0.out (Nat.le_refl _))
  have H := Lib.hid h
  have HC0 := Lib.hid (fun W : World => isDigit_no b W (by omega))
  have HC1 := Lib.hid (fun W : World => endsCsi_yes b W hl hu)
  have n63 : (b == 63) = false := by simp; omega
  have n59 : (b == 59) = false := by simp; omega
  have HX := Lib.hid (completed_any g base 2 q A na ca zs bs Q np cp b _ HP0.out)
  clear h hl hu
  go_enter Tryd.func89, Tryd.ntmps89
  go_wp2_with fail
  refine (HC0.out _).mono ?_
  rintro e w9 ⟨rfl, rfl⟩
  go_wp2_with fail
  refine (HC1.out _).mono ?_
  rintro e w9 ⟨rfl, rfl⟩
  go_wp2_with fail
  refine HX.out.mono ?_
  rintro e w2 ⟨A9, n9, c9, P9, p9, d9, A8, n8, c8, rfl, hrest⟩
  have HM : Hid (Ans _ base g A na ca Q np cp vz ⟨4, b, q, zs⟩ _ w2) := Lib.hid ⟨A9, n9, c9, P9, p9, d9, A8, n8, c8, rfl, hrest⟩
  have ha := HN.out.only hrest.2.2.2.2.2.2 (fun h' => by
    rcases h' with h' | h' | h'
    · omega
    · have := hAl _ h'; omega
    · have := hPl _ h'; omega)
  obtain ⟨⟨x0, x1, x2, x3⟩, f0, f1, f2, f3⟩ := ha.cells
  clear hrest ha
  go_wp2_with fail
  refine bodyPost_ret (v := .agg #[.int .i64 4, .int .i64 b, .bool q, .slice A8 n8 c8]) (by simp [results, Tryd.results89, go_sem, x0, x1, x2, x3]) rfl ?_
  exact ans_wrapG hg hAl hPl HW0.out HM.out (put4 _ w.heap.size _ _ _ _) (fun i hi => by subst hi; exact ⟨Nat.le_refl _, by simp⟩)
end Go.Proofs.YtfdbmhelcmifoaaDoor.Vp
