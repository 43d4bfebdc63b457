/- The program's parser: a byte is read, in any state. -/
import Derived.Test.YtfdbmhelcmifoaaDoorVpV
import Derived.Test.YtfdbmhelcmifoaaDoorCloneB
namespace Go.Proofs.YtfdbmhelcmifoaaDoor.Vp
open Go.RowKit Go.Proofs.YtfdbmhelcmifoaaDoor.Bytes Go.Proofs.YtfdbmhelcmifoaaDoor.DOk Go.Proofs.YtfdbmhelcmifoaaDoor.Rune Go.Proofs.YtfdbmhelcmifoaaDoor.RowK Go.Proofs.YtfdbmhelcmifoaaDoor.Gr
set_option linter.unusedVariables false
attribute [local go_sem ↓] Go.wp_at_zero Go.wp_at_succ
theorem inText_ok (g base : Nat) (A : Option Addr) (na ca : Nat) (bs : List Int) (Q : Option Addr) (np cp : Nat) (b : Int) (w : World) (hT : TabsB base w) (h : Par w base g ⟨0, false, [], bs⟩ A na ca Q np cp) (hb : base ≤ w.heap.size) (hbg : base ≤ g) (hr : Rng bs) (hn : np ≤ 100) (h0 : 0 ≤ b) (h1 : b ≤ 255) :
    Calls Tryd.prog 91 #[.pointer (some ⟨g, 0, none⟩), .int .i64 b] w (Ans w base g A na ca Q np cp (plainV bs b).1 (plainV bs b).2) := by
  by_cases hc : b < 32 ∨ b = 127
  · have e : plainV bs b = (vz, ⟨2, b, false, []⟩) := by unfold plainV; rw [if_pos hc]
    rw [e]; exact inText_ctl g base false A na ca [] bs Q np cp b w hT h hb hbg hr hn h0 h1 hc
  by_cases hd : b < 127
  · have e : plainV bs b = (vz, ⟨1, b, false, []⟩) := by unfold plainV; rw [if_neg hc, if_pos hd]
    rw [e]; exact inText_rune g base false A na ca [] bs Q np cp b w hT h hb hbg hr hn h0 h1 (by omega) hd
  · have e : plainV bs b = runeOut 0 false [] (bs ++ [b]) := by unfold plainV runeOut; rw [if_neg hc, if_neg hd]; rfl
    rw [e]; exact inText_more g base false A na ca [] bs Q np cp b w hT h hb hbg hr hn h0 h1 (by omega)
theorem afterEscape_ok (g base : Nat) (q : Bool) (A : Option Addr) (na ca : Nat) (zs bs : List Int) (Q : Option Addr) (np cp : Nat) (b : Int) (w : World) (h : Par w base g ⟨1, q, zs, bs⟩ A na ca Q np cp) :
    Calls Tryd.prog 88 #[.pointer (some ⟨g, 0, none⟩), .int .i64 b] w (Ans w base g A na ca Q np cp (escV b).1 (escV b).2) := by
  by_cases hc : b = 91
  · have e : escV b = (⟨2, false, [], []⟩, az) := by unfold escV; rw [if_pos hc]
    rw [e]; exact afterEscape_csi g base q A na ca zs bs Q np cp b w h hc
  by_cases hd : 48 ≤ b ∧ b ≤ 126
  · have e : escV b = (vz, ⟨3, b, false, []⟩) := by unfold escV; rw [if_neg hc, if_pos hd]
    rw [e]; exact afterEscape_esc g base q A na ca zs bs Q np cp b w h hc hd.1 hd.2
  · have e : escV b = (vz, az) := by unfold escV; rw [if_neg hc, if_neg hd]
    rw [e]; exact afterEscape_no g base q A na ca zs bs Q np cp b w h hc hd
theorem inSkipped_ok (g base : Nat) (q : Bool) (A : Option Addr) (na ca : Nat) (zs : List Int) (Q : Option Addr) (np cp : Nat) (b : Int) (w : World) (h : Par w base g ⟨3, q, zs, []⟩ A na ca Q np cp) :
    Calls Tryd.prog 90 #[.pointer (some ⟨g, 0, none⟩), .int .i64 b] w (Ans w base g A na ca Q np cp (skipV q zs b).1 (skipV q zs b).2) := by
  by_cases hd : 64 ≤ b ∧ b ≤ 126
  · have e : skipV q zs b = (vz, az) := by unfold skipV; rw [if_pos hd]
    rw [e]; exact inSkipped_end g base q A na ca zs [] Q np cp b w h hd.1 hd.2
  · have e : skipV q zs b = (⟨3, q, zs, []⟩, az) := by unfold skipV; rw [if_neg hd]
    rw [e]; exact inSkipped_on g base q A na ca zs [] Q np cp b w h hd
theorem inSequence_ok (g base : Nat) (q : Bool) (A : Option Addr) (na ca : Nat) (zs : List Int) (Q : Option Addr) (np cp : Nat) (b : Int) (w : World) (h : Par w base g ⟨2, q, zs, []⟩ A na ca Q np cp) (hb : base ≤ w.heap.size) (h8 : na ≤ 8) (hz : ∀ z ∈ zs, 0 ≤ z ∧ z ≤ 9999) (h0 : 0 ≤ b) :
    Calls Tryd.prog 89 #[.pointer (some ⟨g, 0, none⟩), .int .i64 b] w (Ans w base g A na ca Q np cp (csiV q zs b).1 (csiV q zs b).2) := by
  have hl : zs.length = na := h.i.len
  by_cases h63 : b = 63
  · cases hp : hpB q na with
    | false =>
      have e : csiV q zs b = (⟨2, true, zs, []⟩, az) := by unfold csiV; rw [if_pos ⟨h63, by rw [hl]; exact hp⟩]
      rw [e]; exact inSequence_mark g base q A na ca zs [] Q np cp b w h h63 hp
    | true =>
      have e : csiV q zs b = (⟨3, q, zs, []⟩, az) := by unfold csiV; rw [if_neg (by rw [hl, hp]; simp), if_neg (by omega), if_neg (by omega), if_neg (by omega), if_neg (by omega)]
      rw [e]; exact inSequence_mark2 g base q A na ca zs [] Q np cp b w h h63 hp
  have n1 : ¬ (b = 63 ∧ hpB q zs.length = false) := fun x => h63 x.1
  by_cases hd : 48 ≤ b ∧ b ≤ 57
  · have e : csiV q zs b = (⟨2, q, digV zs (b - 48), []⟩, az) := by unfold csiV; rw [if_neg n1, if_pos hd]
    rw [e]; exact inSequence_digit g base q A na ca zs [] Q np cp b w h hb hz h8 hd.1 hd.2
  by_cases h59 : b = 59
  · have e : csiV q zs b = (sepV q zs [], az) := by
      unfold csiV sepV; rw [if_neg n1, if_neg hd, if_pos h59]
      split <;> rfl
    rw [e]; exact inSequence_sep g base q A na ca zs [] Q np cp b w h hb h8 h59
  by_cases he : 64 ≤ b ∧ b ≤ 126
  · have e : csiV q zs b = (vz, ⟨4, b, q, zs⟩) := by unfold csiV; rw [if_neg n1, if_neg hd, if_neg h59, if_pos he]
    rw [e]; exact inSequence_end g base q A na ca zs [] Q np cp b w h he.1 he.2
  by_cases hc : b < 32 ∨ b = 127
  · have e : csiV q zs b = (⟨2, q, zs, []⟩, ⟨2, b, false, []⟩) := by unfold csiV; rw [if_neg n1, if_neg hd, if_neg h59, if_neg he, if_pos hc]
    rw [e]; exact inSequence_ctl g base q A na ca zs [] Q np cp b w h hc
  · have e : csiV q zs b = (⟨3, q, zs, []⟩, az) := by unfold csiV; rw [if_neg n1, if_neg hd, if_neg h59, if_neg he, if_neg hc]
    rw [e]; exact inSequence_skip g base q A na ca zs [] Q np cp b w h hb (by simpa using h63) (by simpa using h59) hd he (by omega) (by omega)
set_option maxRecDepth 100000 in
set_option maxHeartbeats 1600000 in
theorem read_esc (g base : Nat) (s : VS) (A : Option Addr) (na ca : Nat) (Q : Option Addr) (np cp : Nat) (b : Int) (w : World) (h : Par w base g s A na ca Q np cp) (hb : b = 27) :
    Calls Tryd.prog 44 #[.pointer (some ⟨g, 0, none⟩), .int .i64 b] w (Ans w base g A na ca Q np cp ⟨1, false, [], []⟩ az) := by
  subst hb
  have hg := h.bx.lt
  have hAl : ∀ i, Blk A na ca i → i < w.heap.size := fun i hi => (h.ltA i hi).2
  have hPl : ∀ i, Blk Q np cp i → i < w.heap.size := fun i hi => (h.ltP i hi).2
  have HW0 := Lib.hid (show Below w.heap.size w (w.alloc (.cells #[.int .i64 0, .int .i64 0, .bool false, .slice none 0 0] 53)) from (Below.refl _ _).alloc (Nat.le_refl _) _)
  have HN := Lib.hid (BoxA.new w #[.int .i64 0, .int .i64 0, .bool false, .slice none 0 0])
  have HP0 := Lib.hid (h.below HW0.out (Nat.le_refl _))
  clear h
  go_enter Tryd.func44, Tryd.ntmps44
  go_wp2_with fail
  refine (become_1 g _ _ _ _ _ false none 0 0 none 0 0 _ HP0.out.bx).mono ?_
  rintro e w1 ⟨rfl, hb1, hb2⟩
  have hb : Bec g 1 false none 0 0 none 0 0 _ _ w1 := ⟨rfl, hb1, hb2⟩
  have HM := Lib.hid (mth_bez HP0.out hb (Only.refl _ _))
  have ha := HN.out.only hb2 (fun e => by omega)
  obtain ⟨⟨x0, x1, x2, x3⟩, f0, f1, f2, f3⟩ := ha.cells
  clear hb hb1 hb2 ha
  go_wp2_with fail
  refine bodyPost_ret (v := .agg #[.int .i64 0, .int .i64 0, .bool false, .slice none 0 0]) (by simp [results, Tryd.results44, go_sem, x0, x1, x2, x3]) rfl ?_
  exact ans_wrapG hg hAl hPl HW0.out (HM.out.ans 0 0 false) (put4 w1 w.heap.size _ _ _ _) (fun i hi => by subst hi; exact ⟨Nat.le_refl _, by simp⟩)
set_option maxRecDepth 100000 in
set_option maxHeartbeats 1600000 in
theorem read_can (g base : Nat) (s : VS) (A : Option Addr) (na ca : Nat) (Q : Option Addr) (np cp : Nat) (b : Int) (w : World) (h : Par w base g s A na ca Q np cp) (hb : b = 24) :
    Calls Tryd.prog 44 #[.pointer (some ⟨g, 0, none⟩), .int .i64 b] w (Ans w base g A na ca Q np cp vz az) := by
  subst hb
  have hg := h.bx.lt
  have hAl : ∀ i, Blk A na ca i → i < w.heap.size := fun i hi => (h.ltA i hi).2
  have hPl : ∀ i, Blk Q np cp i → i < w.heap.size := fun i hi => (h.ltP i hi).2
  have HW0 := Lib.hid (show Below w.heap.size w (w.alloc (.cells #[.int .i64 0, .int .i64 0, .bool false, .slice none 0 0] 53)) from (Below.refl _ _).alloc (Nat.le_refl _) _)
  have HN := Lib.hid (BoxA.new w #[.int .i64 0, .int .i64 0, .bool false, .slice none 0 0])
  have HP0 := Lib.hid (h.below HW0.out (Nat.le_refl _))
  clear h
  go_enter Tryd.func44, Tryd.ntmps44
  go_wp2_with fail
  refine (become_0 g _ _ _ _ _ false none 0 0 none 0 0 _ HP0.out.bx).mono ?_
  rintro e w1 ⟨rfl, hb1, hb2⟩
  have hb : Bec g 0 false none 0 0 none 0 0 _ _ w1 := ⟨rfl, hb1, hb2⟩
  have HM := Lib.hid (mth_bez HP0.out hb (Only.refl _ _))
  have ha := HN.out.only hb2 (fun e => by omega)
  obtain ⟨⟨x0, x1, x2, x3⟩, f0, f1, f2, f3⟩ := ha.cells
  clear hb hb1 hb2 ha
  go_wp2_with fail
  refine bodyPost_ret (v := .agg #[.int .i64 0, .int .i64 0, .bool false, .slice none 0 0]) (by simp [results, Tryd.results44, go_sem, x0, x1, x2, x3]) rfl ?_
  exact ans_wrapG hg hAl hPl HW0.out (HM.out.ans 0 0 false) (put4 w1 w.heap.size _ _ _ _) (fun i hi => by subst hi; exact ⟨Nat.le_refl _, by simp⟩)
set_option maxRecDepth 100000 in
set_option maxHeartbeats 1600000 in
theorem read_sub (g base : Nat) (s : VS) (A : Option Addr) (na ca : Nat) (Q : Option Addr) (np cp : Nat) (b : Int) (w : World) (h : Par w base g s A na ca Q np cp) (hb : b = 26) :
    Calls Tryd.prog 44 #[.pointer (some ⟨g, 0, none⟩), .int .i64 b] w (Ans w base g A na ca Q np cp vz az) := by
  subst hb
  have hg := h.bx.lt
  have hAl : ∀ i, Blk A na ca i → i < w.heap.size := fun i hi => (h.ltA i hi).2
  have hPl : ∀ i, Blk Q np cp i → i < w.heap.size := fun i hi => (h.ltP i hi).2
  have HW0 := Lib.hid (show Below w.heap.size w (w.alloc (.cells #[.int .i64 0, .int .i64 0, .bool false, .slice none 0 0] 53)) from (Below.refl _ _).alloc (Nat.le_refl _) _)
  have HN := Lib.hid (BoxA.new w #[.int .i64 0, .int .i64 0, .bool false, .slice none 0 0])
  have HP0 := Lib.hid (h.below HW0.out (Nat.le_refl _))
  clear h
  go_enter Tryd.func44, Tryd.ntmps44
  go_wp2_with fail
  refine (become_0 g _ _ _ _ _ false none 0 0 none 0 0 _ HP0.out.bx).mono ?_
  rintro e w1 ⟨rfl, hb1, hb2⟩
  have hb : Bec g 0 false none 0 0 none 0 0 _ _ w1 := ⟨rfl, hb1, hb2⟩
  have HM := Lib.hid (mth_bez HP0.out hb (Only.refl _ _))
  have ha := HN.out.only hb2 (fun e => by omega)
  obtain ⟨⟨x0, x1, x2, x3⟩, f0, f1, f2, f3⟩ := ha.cells
  clear hb hb1 hb2 ha
  go_wp2_with fail
  refine bodyPost_ret (v := .agg #[.int .i64 0, .int .i64 0, .bool false, .slice none 0 0]) (by simp [results, Tryd.results44, go_sem, x0, x1, x2, x3]) rfl ?_
  exact ans_wrapG hg hAl hPl HW0.out (HM.out.ans 0 0 false) (put4 w1 w.heap.size _ _ _ _) (fun i hi => by subst hi; exact ⟨Nat.le_refl _, by simp⟩)
set_option maxRecDepth 100000 in
set_option maxHeartbeats 1600000 in
theorem read_0 (g base : Nat) (q : Bool) (zs bs : List Int) (A : Option Addr) (na ca : Nat) (Q : Option Addr) (np cp : Nat) (b : Int) (r : VS × AS) (w : World) (h : Par w base g ⟨0, q, zs, bs⟩ A na ca Q np cp) (n27 : (b == 27) = false) (n24 : (b == 24) = false) (n26 : (b == 26) = false)
    (HX : Hid (∀ W, Below w.heap.size w W → Par W base g ⟨0, q, zs, bs⟩ A na ca Q np cp → Calls Tryd.prog 91 #[.pointer (some ⟨g, 0, none⟩), .int .i64 b] W (Ans W base g A na ca Q np cp r.1 r.2))) :
    Calls Tryd.prog 44 #[.pointer (some ⟨g, 0, none⟩), .int .i64 b] w (Ans w base g A na ca Q np cp r.1 r.2) := by
  have hg := h.bx.lt
  have hAl : ∀ i, Blk A na ca i → i < w.heap.size := fun i hi => (h.ltA i hi).2
  have hPl : ∀ i, Blk Q np cp i → i < w.heap.size := fun i hi => (h.ltP i hi).2
  have HW0 := Lib.hid (show Below w.heap.size w (w.alloc (.cells #[.int .i64 0, .int .i64 0, .bool false, .slice none 0 0] 53)) from (Below.refl _ _).alloc (Nat.le_refl _) _)
  have HN := Lib.hid (BoxA.new w #[.int .i64 0, .int .i64 0, .bool false, .slice none 0 0])
  have HP0 := Lib.hid (h.below HW0.out (Nat.le_refl _))
  have c4 : (w.alloc (.cells #[.int .i64 0, .int .i64 0, .bool false, .slice none 0 0] 53)).cell? ⟨g, 4, none⟩ = some (.func (.func 91) #[.pointer (some ⟨g, 0, none⟩)] #[]) := by
    rw [HP0.out.cells.1.2.2.2.2]; simp [fnOf]
  have HY := Lib.hid (HX.out _ HW0.out HP0.out)
  clear h HX
  go_enter Tryd.func44, Tryd.ntmps44
  go_wp2_with fail
  refine HY.out.mono ?_
  rintro e w2 ⟨A9, n9, c9, P9, p9, d9, A8, n8, c8, rfl, hrest⟩
  have HM : Hid (Ans _ base g A na ca Q np cp r.1 r.2 _ w2) := Lib.hid ⟨A9, n9, c9, P9, p9, d9, A8, n8, c8, rfl, hrest⟩
  have ha := HN.out.only hrest.2.2.2.2.2.2 (fun h' => by
    rcases h' with h' | h' | h'
    · omega
    · have := hAl _ h'; omega
    · have := hPl _ h'; omega)
  obtain ⟨⟨x0, x1, x2, x3⟩, f0, f1, f2, f3⟩ := ha.cells
  clear hrest ha
  go_wp2_with fail
  refine bodyPost_ret (v := .agg #[.int .i64 r.2.k, .int .i64 r.2.r, .bool r.2.q, .slice A8 n8 c8]) (by simp [results, Tryd.results44, go_sem, x0, x1, x2, x3]) rfl ?_
  exact ans_wrapG hg hAl hPl HW0.out HM.out (put4 _ w.heap.size _ _ _ _) (fun i hi => by subst hi; exact ⟨Nat.le_refl _, by simp⟩)
set_option maxRecDepth 100000 in
set_option maxHeartbeats 1600000 in
theorem read_1 (g base : Nat) (q : Bool) (zs bs : List Int) (A : Option Addr) (na ca : Nat) (Q : Option Addr) (np cp : Nat) (b : Int) (r : VS × AS) (w : World) (h : Par w base g ⟨1, q, zs, bs⟩ A na ca Q np cp) (n27 : (b == 27) = false) (n24 : (b == 24) = false) (n26 : (b == 26) = false)
    (HX : Hid (∀ W, Below w.heap.size w W → Par W base g ⟨1, q, zs, bs⟩ A na ca Q np cp → Calls Tryd.prog 88 #[.pointer (some ⟨g, 0, none⟩), .int .i64 b] W (Ans W base g A na ca Q np cp r.1 r.2))) :
    Calls Tryd.prog 44 #[.pointer (some ⟨g, 0, none⟩), .int .i64 b] w (Ans w base g A na ca Q np cp r.1 r.2) := by
  have hg := h.bx.lt
  have hAl : ∀ i, Blk A na ca i → i < w.heap.size := fun i hi => (h.ltA i hi).2
  have hPl : ∀ i, Blk Q np cp i → i < w.heap.size := fun i hi => (h.ltP i hi).2
  have HW0 := Lib.hid (show Below w.heap.size w (w.alloc (.cells #[.int .i64 0, .int .i64 0, .bool false, .slice none 0 0] 53)) from (Below.refl _ _).alloc (Nat.le_refl _) _)
  have HN := Lib.hid (BoxA.new w #[.int .i64 0, .int .i64 0, .bool false, .slice none 0 0])
  have HP0 := Lib.hid (h.below HW0.out (Nat.le_refl _))
  have c4 : (w.alloc (.cells #[.int .i64 0, .int .i64 0, .bool false, .slice none 0 0] 53)).cell? ⟨g, 4, none⟩ = some (.func (.func 88) #[.pointer (some ⟨g, 0, none⟩)] #[]) := by
    rw [HP0.out.cells.1.2.2.2.2]; simp [fnOf]
  have HY := Lib.hid (HX.out _ HW0.out HP0.out)
  clear h HX
  go_enter Tryd.func44, Tryd.ntmps44
  go_wp2_with fail
  refine HY.out.mono ?_
  rintro e w2 ⟨A9, n9, c9, P9, p9, d9, A8, n8, c8, rfl, hrest⟩
  have HM : Hid (Ans _ base g A na ca Q np cp r.1 r.2 _ w2) := Lib.hid ⟨A9, n9, c9, P9, p9, d9, A8, n8, c8, rfl, hrest⟩
  have ha := HN.out.only hrest.2.2.2.2.2.2 (fun h' => by
    rcases h' with h' | h' | h'
    · omega
    · have := hAl _ h'; omega
    · have := hPl _ h'; omega)
  obtain ⟨⟨x0, x1, x2, x3⟩, f0, f1, f2, f3⟩ := ha.cells
  clear hrest ha
  go_wp2_with fail
  refine bodyPost_ret (v := .agg #[.int .i64 r.2.k, .int .i64 r.2.r, .bool r.2.q, .slice A8 n8 c8]) (by simp [results, Tryd.results44, go_sem, x0, x1, x2, x3]) rfl ?_
  exact ans_wrapG hg hAl hPl HW0.out HM.out (put4 _ w.heap.size _ _ _ _) (fun i hi => by subst hi; exact ⟨Nat.le_refl _, by simp⟩)
set_option maxRecDepth 100000 in
set_option maxHeartbeats 1600000 in
theorem read_2 (g base : Nat) (q : Bool) (zs bs : List Int) (A : Option Addr) (na ca : Nat) (Q : Option Addr) (np cp : Nat) (b : Int) (r : VS × AS) (w : World) (h : Par w base g ⟨2, q, zs, bs⟩ A na ca Q np cp) (n27 : (b == 27) = false) (n24 : (b == 24) = false) (n26 : (b == 26) = false)
    (HX : Hid (∀ W, Below w.heap.size w W → Par W base g ⟨2, q, zs, bs⟩ A na ca Q np cp → Calls Tryd.prog 89 #[.pointer (some ⟨g, 0, none⟩), .int .i64 b] W (Ans W base g A na ca Q np cp r.1 r.2))) :
    Calls Tryd.prog 44 #[.pointer (some ⟨g, 0, none⟩), .int .i64 b] w (Ans w base g A na ca Q np cp r.1 r.2) := by
  have hg := h.bx.lt
  have hAl : ∀ i, Blk A na ca i → i < w.heap.size := fun i hi => (h.ltA i hi).2
  have hPl : ∀ i, Blk Q np cp i → i < w.heap.size := fun i hi => (h.ltP i hi).2
  have HW0 := Lib.hid (show Below w.heap.size w (w.alloc (.cells #[.int .i64 0, .int .i64 0, .bool false, .slice none 0 0] 53)) from (Below.refl _ _).alloc (Nat.le_refl _) _)
  have HN := Lib.hid (BoxA.new w #[.int .i64 0, .int .i64 0, .bool false, .slice none 0 0])
  have HP0 := Lib.hid (h.below HW0.out (Nat.le_refl _))
  have c4 : (w.alloc (.cells #[.int .i64 0, .int .i64 0, .bool false, .slice none 0 0] 53)).cell? ⟨g, 4, none⟩ = some (.func (.func 89) #[.pointer (some ⟨g, 0, none⟩)] #[]) := by
    rw [HP0.out.cells.1.2.2.2.2]; simp [fnOf]
  have HY := Lib.hid (HX.out _ HW0.out HP0.out)
  clear h HX
  go_enter Tryd.func44, Tryd.ntmps44
  go_wp2_with fail
  refine HY.out.mono ?_
  rintro e w2 ⟨A9, n9, c9, P9, p9, d9, A8, n8, c8, rfl, hrest⟩
  have HM : Hid (Ans _ base g A na ca Q np cp r.1 r.2 _ w2) := Lib.hid ⟨A9, n9, c9, P9, p9, d9, A8, n8, c8, rfl, hrest⟩
  have ha := HN.out.only hrest.2.2.2.2.2.2 (fun h' => by
    rcases h' with h' | h' | h'
    · omega
    · have := hAl _ h'; omega
    · have := hPl _ h'; omega)
  obtain ⟨⟨x0, x1, x2, x3⟩, f0, f1, f2, f3⟩ := ha.cells
  clear hrest ha
  go_wp2_with fail
  refine bodyPost_ret (v := .agg #[.int .i64 r.2.k, .int .i64 r.2.r, .bool r.2.q, .slice A8 n8 c8]) (by simp [results, Tryd.results44, go_sem, x0, x1, x2, x3]) rfl ?_
  exact ans_wrapG hg hAl hPl HW0.out HM.out (put4 _ w.heap.size _ _ _ _) (fun i hi => by subst hi; exact ⟨Nat.le_refl _, by simp⟩)
set_option maxRecDepth 100000 in
set_option maxHeartbeats 1600000 in
theorem read_3 (g base : Nat) (q : Bool) (zs bs : List Int) (A : Option Addr) (na ca : Nat) (Q : Option Addr) (np cp : Nat) (b : Int) (r : VS × AS) (w : World) (h : Par w base g ⟨3, q, zs, bs⟩ A na ca Q np cp) (n27 : (b == 27) = false) (n24 : (b == 24) = false) (n26 : (b == 26) = false)
    (HX : Hid (∀ W, Below w.heap.size w W → Par W base g ⟨3, q, zs, bs⟩ A na ca Q np cp → Calls Tryd.prog 90 #[.pointer (some ⟨g, 0, none⟩), .int .i64 b] W (Ans W base g A na ca Q np cp r.1 r.2))) :
    Calls Tryd.prog 44 #[.pointer (some ⟨g, 0, none⟩), .int .i64 b] w (Ans w base g A na ca Q np cp r.1 r.2) := by
  have hg := h.bx.lt
  have hAl : ∀ i, Blk A na ca i → i < w.heap.size := fun i hi => (h.ltA i hi).2
  have hPl : ∀ i, Blk Q np cp i → i < w.heap.size := fun i hi => (h.ltP i hi).2
  have HW0 := Lib.hid (show Below w.heap.size w (w.alloc (.cells #[.int .i64 0, .int .i64 0, .bool false, .slice none 0 0] 53)) from (Below.refl _ _).alloc (Nat.le_refl _) _)
  have HN := Lib.hid (BoxA.new w #[.int .i64 0, .int .i64 0, .bool false, .slice none 0 0])
  have HP0 := Lib.hid (h.below HW0.out (Nat.le_refl _))
  have c4 : (w.alloc (.cells #[.int .i64 0, .int .i64 0, .bool false, .slice none 0 0] 53)).cell? ⟨g, 4, none⟩ = some (.func (.func 90) #[.pointer (some ⟨g, 0, none⟩)] #[]) := by
    rw [HP0.out.cells.1.2.2.2.2]; simp [fnOf]
  have HY := Lib.hid (HX.out _ HW0.out HP0.out)
  clear h HX
  go_enter Tryd.func44, Tryd.ntmps44
  go_wp2_with fail
  refine HY.out.mono ?_
  rintro e w2 ⟨A9, n9, c9, P9, p9, d9, A8, n8, c8, rfl, hrest⟩
  have HM : Hid (Ans _ base g A na ca Q np cp r.1 r.2 _ w2) := Lib.hid ⟨A9, n9, c9, P9, p9, d9, A8, n8, c8, rfl, hrest⟩
  have ha := HN.out.only hrest.2.2.2.2.2.2 (fun h' => by
    rcases h' with h' | h' | h'
    · omega
    · have := hAl _ h'; omega
    · have := hPl _ h'; omega)
  obtain ⟨⟨x0, x1, x2, x3⟩, f0, f1, f2, f3⟩ := ha.cells
  clear hrest ha
  go_wp2_with fail
  refine bodyPost_ret (v := .agg #[.int .i64 r.2.k, .int .i64 r.2.r, .bool r.2.q, .slice A8 n8 c8]) (by simp [results, Tryd.results44, go_sem, x0, x1, x2, x3]) rfl ?_
  exact ans_wrapG hg hAl hPl HW0.out HM.out (put4 _ w.heap.size _ _ _ _) (fun i hi => by subst hi; exact ⟨Nat.le_refl _, by simp⟩)
theorem read_any (g base : Nat) (s : VS) (A : Option Addr) (na ca : Nat) (Q : Option Addr) (np cp : Nat) (b : Int) (w : World) (h : Par w base g s A na ca Q np cp) (hT : TabsB base w) (hok : s.ok) (hb : base ≤ w.heap.size) (hbg : base ≤ g) (h0 : 0 ≤ b) (h1 : b ≤ 255) :
    Calls Tryd.prog 44 #[.pointer (some ⟨g, 0, none⟩), .int .i64 b] w (Ans w base g A na ca Q np cp (stepV s b).1 (stepV s b).2) := by
  by_cases h27 : b = 27
  · have e : stepV s b = (⟨1, false, [], []⟩, az) := by unfold stepV; rw [if_pos h27]
    rw [e]; exact read_esc g base s A na ca Q np cp b w h h27
  by_cases h24 : b = 24
  · have e : stepV s b = (vz, az) := by unfold stepV; rw [if_neg h27, if_pos (.inl h24)]
    rw [e]; exact read_can g base s A na ca Q np cp b w h h24
  by_cases h26 : b = 26
  · have e : stepV s b = (vz, az) := by unfold stepV; rw [if_neg h27, if_pos (.inr h26)]
    rw [e]; exact read_sub g base s A na ca Q np cp b w h h26
  have m27 : (b == 27) = false := by simpa using h27
  have m24 : (b == 24) = false := by simpa using h24
  have m26 : (b == 26) = false := by simpa using h26
  have hne : ¬ (b = 24 ∨ b = 26) := by omega
  obtain ⟨st, q, zs, bs⟩ := s
  have hl : zs.length = na := h.i.len
  have hbl : bs.length = np := h.b.len
  have hg := hok.2
  have hp := ok_parts hok
  simp only at hp hg
  rcases hp with ⟨hs, hq, hz, hl2⟩ | ⟨hs, hq, hz, hl2⟩ | ⟨hs, hl8, hb2, hzb⟩
  · subst hs hq hz
    have e : stepV ⟨0, false, [], bs⟩ b = plainV bs b := by unfold stepV; rw [if_neg h27, if_neg hne, if_pos rfl]
    rw [e]; exact read_0 g base false [] bs A na ca Q np cp b _ w h m27 m24 m26 (Lib.hid fun W hW hP => inText_ok g base A na ca bs Q np cp b W (hT.below hW hb) hP (Nat.le_trans hb hW.size) hbg hg (by omega) h0 h1)
  · subst hs
    have e : stepV ⟨1, q, zs, bs⟩ b = escV b := by unfold stepV; rw [if_neg h27, if_neg hne, if_neg (by simp), if_pos rfl]
    rw [e]; exact read_1 g base q zs bs A na ca Q np cp b _ w h m27 m24 m26 (Lib.hid fun W hW hP => afterEscape_ok g base q A na ca zs bs Q np cp b W hP)
  · subst hb2
    rcases hs with hs | hs
    · subst hs
      have e : stepV ⟨2, q, zs, []⟩ b = csiV q zs b := by unfold stepV; rw [if_neg h27, if_neg hne, if_neg (by simp), if_neg (by simp), if_pos rfl]
      rw [e]; exact read_2 g base q zs [] A na ca Q np cp b _ w h m27 m24 m26 (Lib.hid fun W hW hP => inSequence_ok g base q A na ca zs Q np cp b W hP (Nat.le_trans hb hW.size) (by omega) hzb h0)
    · subst hs
      have e : stepV ⟨3, q, zs, []⟩ b = skipV q zs b := by unfold stepV; rw [if_neg h27, if_neg hne, if_neg (by simp), if_neg (by simp), if_neg (by simp)]
      rw [e]; exact read_3 g base q zs [] A na ca Q np cp b _ w h m27 m24 m26 (Lib.hid fun W hW hP => inSkipped_ok g base q A na ca zs Q np cp b W hP)
end Go.Proofs.YtfdbmhelcmifoaaDoor.Vp
