/- The parameters' turns one after the other, in the model and in the program; at every attribute and every list of at most 2^21 ints. -/
import Derived.Test.YtgnpgkkjcloghaaGreatKm11
set_option maxRecDepth 100000
set_option maxHeartbeats 3200000
set_option linter.unusedVariables false
namespace Go.Proofs.YtgnpgkkjcloghaaGreat.Attr
open Lib
open Go.RowKit DOk
def sgrL (a : AD) (l : List Int) : AD := l.foldl one a
def sgr (a : AD) (l : List Int) : AD := if okA a.fg a.bg = true ∧ 0 < l.length then sgrL a l else AD.zero
theorem sgr_bad (a : AD) (l : List Int) (h : okA a.fg a.bg = false) : sgr a l = AD.zero := if_neg (by rw [h]; simp)
theorem sgr_nil (a : AD) (l : List Int) (h : l.length = 0) : sgr a l = AD.zero := if_neg (by omega)
theorem sgr_yes (a : AD) (l : List Int) (h : okA a.fg a.bg = true) (h1 : 0 < l.length) : sgr a l = sgrL a l := if_pos ⟨h, h1⟩
theorem sgrL_snoc (a : AD) (l : List Int) (k : Nat) (h : k < l.length) : sgrL a (l.take (k + 1)) = one (sgrL a (l.take k)) l[k] := by
  unfold sgrL; rw [List.take_succ_eq_append_getElem h, List.foldl_append]; rfl
def AD.c (a : AD) : Array Value := #[.int .i64 a.fg, .int .i64 a.bg, .bool a.b, .bool a.u, .bool a.t]
def BoxA (w : World) (b : Nat) (cs : Array Value) : Prop := w.heap[b]? = some (.cells cs 35 (0, 0))
theorem BoxA.lt {w : World} {b : Nat} {cs : Array Value} (h : BoxA w b cs) : b < w.heap.size := (Array.getElem?_eq_some_iff.1 h).1
theorem BoxA.cell {w : World} {b : Nat} {cs : Array Value} (h : BoxA w b cs) (j : Nat) : w.cell? ⟨b, j, none⟩ = cs[j]? := by unfold BoxA at h; simp [World.cell?, h]
theorem BoxA.free {w : World} {b : Nat} {cs : Array Value} (h : BoxA w b cs) (j : Nat) : w.frozen? ⟨b, j, none⟩ = false := by unfold BoxA at h; simp [World.frozen?, h]
theorem BoxA.below {w w' : World} {b B : Nat} {cs : Array Value} (h : BoxA w b cs) (hb : Below B w w') (hB : b < B) : BoxA w' b cs := by unfold BoxA at h ⊢; rw [hb.block b hB]; exact h
theorem BoxA.other {w : World} {b b' j : Nat} {cs : Array Value} {v : Value} (h : BoxA w b cs) (hne : b ≠ b') : BoxA (w.setCell ⟨b', j, none⟩ v) b cs := by
  unfold BoxA at h ⊢; rw [Below.heap_setCell _ _ _ _ hne]; exact h
theorem BoxA.other5 {w : World} {b b' : Nat} {cs : Array Value} (h : BoxA w b cs) (hne : b ≠ b') (y0 y1 y2 y3 y4 : Value) :
    BoxA (((((w.setCell ⟨b', 0, none⟩ y0).setCell ⟨b', 1, none⟩ y1).setCell ⟨b', 2, none⟩ y2).setCell ⟨b', 3, none⟩ y3).setCell ⟨b', 4, none⟩ y4) b cs :=
  ((((h.other hne).other hne).other hne).other hne).other hne
theorem BoxA.set5 {w : World} {b : Nat} {x0 x1 x2 x3 x4 : Value} (h : BoxA w b #[x0, x1, x2, x3, x4]) (y0 y1 y2 y3 y4 : Value) :
    BoxA (((((w.setCell ⟨b, 0, none⟩ y0).setCell ⟨b, 1, none⟩ y1).setCell ⟨b, 2, none⟩ y2).setCell ⟨b, 3, none⟩ y3).setCell ⟨b, 4, none⟩ y4) b #[y0, y1, y2, y3, y4] := by
  unfold BoxA at h ⊢; simp [World.setCell, Array.getElem?_modify, h]
theorem boxA_new (w : World) (cs : Array Value) : BoxA (w.alloc (.cells cs 35)) w.heap.size cs := heap_alloc_new w _
theorem boxA_old (w : World) (b : Nat) (cs : Array Value) (o : Obj) (h : BoxA w b cs) : BoxA (w.alloc o) b cs := by
  have := h.lt; unfold BoxA at h ⊢; rw [Below.heap_alloc _ _ _ this]; exact h
theorem boxA_new2 (w : World) (o : Obj) (cs : Array Value) : BoxA ((w.alloc o).alloc (.cells cs 35)) (w.heap.size + 1) cs := by
  have := heap_alloc_new (w.alloc o) (.cells cs 35); unfold BoxA; simpa using this
theorem spec_Sgr_any (fg bg : Int) (b u t : Bool) (A : Option Addr) (n c : Nat) (zs : List Int) (w : World) (hr : RdI w w.heap.size A zs) (hl : zs.length = n) (hn : n ≤ 2097152) :
    Calls Tryz.prog 50 #[.agg #[.int .i64 fg, .int .i64 bg, .bool b, .bool u, .bool t], .slice A n c] w fun e w' => e = .returned (sgr ⟨fg, bg, b, u, t⟩ zs).v ∧ Below w.heap.size w w' := by
  have HL := hid hl
  have HR := hid hr
  clear hl hr
  cases hv : okA fg bg
  · have HN := hid (sgr_bad ⟨fg, bg, b, u, t⟩ zs hv)
    have HV := hid hv
    clear hv
    go_enter Tryz.func50, Tryz.ntmps50
    go_wp2_with fail
    refine (spec_AttrOk_any fg bg b u t _).mono ?_
    rintro e v1 ⟨rfl, hb⟩
    rw [HV.out]
    obtain ⟨hc, hf⟩ := bcell hb
    have hz : w.heap.size + 1 < v1.heap.size := by have := hb.size; simp at this; omega
    have HB := hid hb
    clear hb
    go_wp2_with fail
    refine bodyPost_ret (v := .agg #[.int .i64 0, .int .i64 0, .bool false, .bool false, .bool false]) (by simp [results, Tryz.results50, go_sem, hc]) rfl ⟨by rw [HN.out]; rfl, ?_⟩
    repeat (first | refine Below.setCell ?_ (by simp <;> omega) _)
    exact (((Below.refl _ _).alloc (Nat.le_refl _) _).alloc (by simp) _).trans (HB.out.mono (by simp; omega))
  · have HV := hid hv
    by_cases h0 : n = 0
    · subst h0
      have HN := hid (sgr_nil ⟨fg, bg, b, u, t⟩ zs HL.out)
      clear hv
      go_enter Tryz.func50, Tryz.ntmps50
      go_wp2_with fail
      refine (spec_AttrOk_any fg bg b u t _).mono ?_
      rintro e v1 ⟨rfl, hb⟩
      rw [HV.out]
      obtain ⟨hc, hf⟩ := bcell hb
      have hz : w.heap.size + 1 < v1.heap.size := by have := hb.size; simp at this; omega
      have HB := hid hb
      clear hb
      go_wp2_with fail
      refine bodyPost_ret (v := .agg #[.int .i64 0, .int .i64 0, .bool false, .bool false, .bool false]) (by simp [results, Tryz.results50, go_sem, hc]) rfl ⟨by rw [HN.out]; rfl, ?_⟩
      repeat (first | refine Below.setCell ?_ (by simp <;> omega) _)
      exact (((Below.refl _ _).alloc (Nat.le_refl _) _).alloc (by simp) _).trans (HB.out.mono (by simp; omega))
    · have hne : ((n : Int) == 0) = false := by simp; omega
      have HN := hid (sgr_yes ⟨fg, bg, b, u, t⟩ zs hv (by rw [HL.out]; omega))
      generalize hS : sgr ⟨fg, bg, b, u, t⟩ zs = aS at *
      obtain ⟨fS, gS, bS, uS, tS⟩ := aS
      clear hS hv h0
      have HXA := fun (v : World) (hb : Below ((w.alloc (.cells #[.int .i64 fg, .int .i64 bg, .bool b, .bool u, .bool t] 35)).alloc (.cells #[.int .i64 0, .int .i64 0, .bool false, .bool false, .bool false] 35)).heap.size ((w.alloc (.cells #[.int .i64 fg, .int .i64 bg, .bool b, .bool u, .bool t] 35)).alloc (.cells #[.int .i64 0, .int .i64 0, .bool false, .bool false, .bool false] 35)) v) =>
        (⟨(boxA_old _ _ _ (.cells #[.int .i64 0, .int .i64 0, .bool false, .bool false, .bool false] 35) (boxA_new w #[.int .i64 fg, .int .i64 bg, .bool b, .bool u, .bool t])).below hb (by simp; omega), (boxA_new2 w (.cells #[.int .i64 fg, .int .i64 bg, .bool b, .bool u, .bool t] 35) #[.int .i64 0, .int .i64 0, .bool false, .bool false, .bool false]).below hb (by simp)⟩ : BoxA v w.heap.size #[.int .i64 fg, .int .i64 bg, .bool b, .bool u, .bool t] ∧ BoxA v (w.heap.size + 1) #[.int .i64 0, .int .i64 0, .bool false, .bool false, .bool false])
      have HXA := hid HXA
      go_enter Tryz.func50, Tryz.ntmps50
      go_wp2_with fail
      refine (spec_AttrOk_any fg bg b u t _).mono ?_
      rintro e v1 ⟨rfl, hb⟩
      rw [HV.out]
      have HX := hid (HXA.out _ hb)
      have HB := hid ((((Below.refl w.heap.size w).alloc (Nat.le_refl _) (.cells #[.int .i64 fg, .int .i64 bg, .bool b, .bool u, .bool t] 35)).alloc (by simp) (.cells #[.int .i64 0, .int .i64 0, .bool false, .bool false, .bool false] 35)).trans (hb.mono (by simp; omega)))
      clear hb HXA
      go_wp2_with fail
      go_loopw [18] (fun i wr => ∃ k : Nat, k ≤ n ∧ i = .int .i64 k ∧ BoxA wr w.heap.size (AD.c (sgrL ⟨fg, bg, b, u, t⟩ (zs.take k))) ∧ BoxA wr (w.heap.size + 1) #[.int .i64 0, .int .i64 0, .bool false, .bool false, .bool false] ∧ Below w.heap.size w wr) (fun i _ => n - (intOf i).toNat)
      case atStart => exact ⟨0, Nat.zero_le _, rfl, HX.out.1, HX.out.2, HB.out⟩
      case round =>
        clear HX HB
        obtain ⟨k, hk, rfl, hx, hy, hb⟩ := hrel
        have hz : w.heap.size + 1 < wr.heap.size := hy.lt
        by_cases hlt : k < n
        · have hlt' : k < zs.length := by rw [HL.out]; exact hlt
          obtain ⟨b0, o0, rfl, hB, hc⟩ := (HR.out.below (Nat.le_refl _) hb).at_ hlt'
          have HS := hid (sgrL_snoc ⟨fg, bg, b, u, t⟩ zs k hlt')
          generalize sgrL ⟨fg, bg, b, u, t⟩ (zs.take k) = a1 at *
          obtain ⟨f1, g1, b1, u1, t1⟩ := a1
          have HC := fun W => l06One_any f1 g1 b1 u1 t1 zs[k] W
          generalize one ⟨f1, g1, b1, u1, t1⟩ zs[k] = a2 at *
          generalize zs[k] = z at *
          obtain ⟨f2, g2, b2, u2, t2⟩ := a2
          have HC := hid HC
          have q0 : wr.cell? ⟨w.heap.size, 0, none⟩ = some (.int .i64 f1) := hx.cell 0
          have q1 : wr.cell? ⟨w.heap.size, 1, none⟩ = some (.int .i64 g1) := hx.cell 1
          have q2 : wr.cell? ⟨w.heap.size, 2, none⟩ = some (.bool b1) := hx.cell 2
          have q3 : wr.cell? ⟨w.heap.size, 3, none⟩ = some (.bool u1) := hx.cell 3
          have q4 : wr.cell? ⟨w.heap.size, 4, none⟩ = some (.bool t1) := hx.cell 4
          have HX := hid hx
          have HY := hid hy
          have HB := hid hb
          clear hx hy hb
          go_wp2_with fail
          refine (HC.out _).mono ?_
          simp only [AD.v]
          rintro e v2 ⟨rfl, hb2⟩
          have hx2 := HX.out.below hb2 (by omega)
          have p0 : v2.cell? ⟨w.heap.size, 0, none⟩ = some (.int .i64 f1) := hx2.cell 0
          have p1 : v2.cell? ⟨w.heap.size, 1, none⟩ = some (.int .i64 g1) := hx2.cell 1
          have p2 : v2.cell? ⟨w.heap.size, 2, none⟩ = some (.bool b1) := hx2.cell 2
          have p3 : v2.cell? ⟨w.heap.size, 3, none⟩ = some (.bool u1) := hx2.cell 3
          have p4 : v2.cell? ⟨w.heap.size, 4, none⟩ = some (.bool t1) := hx2.cell 4
          have pf : ∀ j, v2.frozen? ⟨w.heap.size, j, none⟩ = false := hx2.free
          have hz2 : w.heap.size < v2.heap.size := hx2.lt
          have HX2 := hid (hx2.set5 (.int .i64 f2) (.int .i64 g2) (.bool b2) (.bool u2) (.bool t2))
          have HY2 := hid ((HY.out.below hb2 (by omega)).other5 (show w.heap.size + 1 ≠ w.heap.size by omega) (.int .i64 f2) (.int .i64 g2) (.bool b2) (.bool u2) (.bool t2))
          have HB2 := hid (HB.out.trans (hb2.mono (by omega)))
          clear hx2 hb2
          go_wp2_with fail
          go_roundw
          case rel =>
            refine ⟨k + 1, by omega, by go_num, by rw [HS.out]; exact HX2.out, HY2.out, ?_⟩
            repeat (first | refine Below.setCell ?_ (by simp <;> omega) _)
            exact HB2.out
          case measure => simp [intOf]; omega
        · obtain rfl : n = k := by omega
          rw [show zs.take n = zs from List.take_of_length_le (by rw [HL.out]; exact Nat.le_refl _), ← HN.out] at hx
          have q0 : wr.cell? ⟨w.heap.size, 0, none⟩ = some (.int .i64 fS) := hx.cell 0
          have q1 : wr.cell? ⟨w.heap.size, 1, none⟩ = some (.int .i64 gS) := hx.cell 1
          have q2 : wr.cell? ⟨w.heap.size, 2, none⟩ = some (.bool bS) := hx.cell 2
          have q3 : wr.cell? ⟨w.heap.size, 3, none⟩ = some (.bool uS) := hx.cell 3
          have q4 : wr.cell? ⟨w.heap.size, 4, none⟩ = some (.bool tS) := hx.cell 4
          have y0 : wr.cell? ⟨w.heap.size + 1, 0, none⟩ = some (.int .i64 0) := hy.cell 0
          have y1 : wr.cell? ⟨w.heap.size + 1, 1, none⟩ = some (.int .i64 0) := hy.cell 1
          have y2 : wr.cell? ⟨w.heap.size + 1, 2, none⟩ = some (.bool false) := hy.cell 2
          have y3 : wr.cell? ⟨w.heap.size + 1, 3, none⟩ = some (.bool false) := hy.cell 3
          have y4 : wr.cell? ⟨w.heap.size + 1, 4, none⟩ = some (.bool false) := hy.cell 4
          have yf : ∀ j, wr.frozen? ⟨w.heap.size + 1, j, none⟩ = false := hy.free
          have HB := hid hb
          clear hx hy hb
          go_wp2_with fail
          refine bodyPost_ret (v := .agg #[.int .i64 fS, .int .i64 gS, .bool bS, .bool uS, .bool tS]) (by simp [results, Tryz.results50, go_sem, y0, y1, y2, y3, y4]) rfl ⟨rfl, ?_⟩
          repeat (first | refine Below.setCell ?_ (by simp <;> omega) _)
          exact HB.out
theorem impl_Sgr_any (fg bg : Int) (b u t : Bool) (A : Option Addr) (n c : Nat) (zs : List Int) (w : World) (hr : RdI w w.heap.size A zs) (hl : zs.length = n) (hn : n ≤ 2097152) :
    Calls Tryz.prog 138 #[.agg #[.int .i64 fg, .int .i64 bg, .bool b, .bool u, .bool t], .slice A n c] w fun e w' => e = .returned (sgr ⟨fg, bg, b, u, t⟩ zs).v ∧ Below w.heap.size w w' := by
  have HL := hid hl
  have HR := hid hr
  clear hl hr
  cases hv : okA fg bg
  · have HN := hid (sgr_bad ⟨fg, bg, b, u, t⟩ zs hv)
    have HV := hid hv
    clear hv
    go_enter Tryz.func138, Tryz.ntmps138
    go_wp2_with fail
    refine (impl_AttrOk_any fg bg b u t _).mono ?_
    rintro e v1 ⟨rfl, hb⟩
    rw [HV.out]
    obtain ⟨hc, hf⟩ := bcell hb
    have hz : w.heap.size + 1 < v1.heap.size := by have := hb.size; simp at this; omega
    have HB := hid hb
    clear hb
    go_wp2_with fail
    refine bodyPost_ret (v := .agg #[.int .i64 0, .int .i64 0, .bool false, .bool false, .bool false]) (by simp [results, Tryz.results138, go_sem, hc]) rfl ⟨by rw [HN.out]; rfl, ?_⟩
    repeat (first | refine Below.setCell ?_ (by simp <;> omega) _)
    exact (((Below.refl _ _).alloc (Nat.le_refl _) _).alloc (by simp) _).trans (HB.out.mono (by simp; omega))
  · have HV := hid hv
    by_cases h0 : n = 0
    · subst h0
      have HN := hid (sgr_nil ⟨fg, bg, b, u, t⟩ zs HL.out)
      clear hv
      go_enter Tryz.func138, Tryz.ntmps138
      go_wp2_with fail
      refine (impl_AttrOk_any fg bg b u t _).mono ?_
      rintro e v1 ⟨rfl, hb⟩
      rw [HV.out]
      obtain ⟨hc, hf⟩ := bcell hb
      have hz : w.heap.size + 1 < v1.heap.size := by have := hb.size; simp at this; omega
      have HB := hid hb
      clear hb
      go_wp2_with fail
      refine bodyPost_ret (v := .agg #[.int .i64 0, .int .i64 0, .bool false, .bool false, .bool false]) (by simp [results, Tryz.results138, go_sem, hc]) rfl ⟨by rw [HN.out]; rfl, ?_⟩
      repeat (first | refine Below.setCell ?_ (by simp <;> omega) _)
      exact (((Below.refl _ _).alloc (Nat.le_refl _) _).alloc (by simp) _).trans (HB.out.mono (by simp; omega))
    · have hne : ((n : Int) == 0) = false := by simp; omega
      have HN := hid (sgr_yes ⟨fg, bg, b, u, t⟩ zs hv (by rw [HL.out]; omega))
      generalize hS : sgr ⟨fg, bg, b, u, t⟩ zs = aS at *
      obtain ⟨fS, gS, bS, uS, tS⟩ := aS
      clear hS hv h0
      have HXA := fun (v : World) (hb : Below ((w.alloc (.cells #[.int .i64 fg, .int .i64 bg, .bool b, .bool u, .bool t] 35)).alloc (.cells #[.int .i64 0, .int .i64 0, .bool false, .bool false, .bool false] 35)).heap.size ((w.alloc (.cells #[.int .i64 fg, .int .i64 bg, .bool b, .bool u, .bool t] 35)).alloc (.cells #[.int .i64 0, .int .i64 0, .bool false, .bool false, .bool false] 35)) v) =>
        (⟨(boxA_old _ _ _ (.cells #[.int .i64 0, .int .i64 0, .bool false, .bool false, .bool false] 35) (boxA_new w #[.int .i64 fg, .int .i64 bg, .bool b, .bool u, .bool t])).below hb (by simp; omega), (boxA_new2 w (.cells #[.int .i64 fg, .int .i64 bg, .bool b, .bool u, .bool t] 35) #[.int .i64 0, .int .i64 0, .bool false, .bool false, .bool false]).below hb (by simp)⟩ : BoxA v w.heap.size #[.int .i64 fg, .int .i64 bg, .bool b, .bool u, .bool t] ∧ BoxA v (w.heap.size + 1) #[.int .i64 0, .int .i64 0, .bool false, .bool false, .bool false])
      have HXA := hid HXA
      go_enter Tryz.func138, Tryz.ntmps138
      go_wp2_with fail
      refine (impl_AttrOk_any fg bg b u t _).mono ?_
      rintro e v1 ⟨rfl, hb⟩
      rw [HV.out]
      have HX := hid (HXA.out _ hb)
      have HB := hid ((((Below.refl w.heap.size w).alloc (Nat.le_refl _) (.cells #[.int .i64 fg, .int .i64 bg, .bool b, .bool u, .bool t] 35)).alloc (by simp) (.cells #[.int .i64 0, .int .i64 0, .bool false, .bool false, .bool false] 35)).trans (hb.mono (by simp; omega)))
      clear hb HXA
      go_wp2_with fail
      go_loopw [18] (fun i wr => ∃ k : Nat, k ≤ n ∧ i = .int .i64 k ∧ BoxA wr w.heap.size (AD.c (sgrL ⟨fg, bg, b, u, t⟩ (zs.take k))) ∧ BoxA wr (w.heap.size + 1) #[.int .i64 0, .int .i64 0, .bool false, .bool false, .bool false] ∧ Below w.heap.size w wr) (fun i _ => n - (intOf i).toNat)
      case atStart => exact ⟨0, Nat.zero_le _, rfl, HX.out.1, HX.out.2, HB.out⟩
      case round =>
        clear HX HB
        obtain ⟨k, hk, rfl, hx, hy, hb⟩ := hrel
        have hz : w.heap.size + 1 < wr.heap.size := hy.lt
        by_cases hlt : k < n
        · have hlt' : k < zs.length := by rw [HL.out]; exact hlt
          obtain ⟨b0, o0, rfl, hB, hc⟩ := (HR.out.below (Nat.le_refl _) hb).at_ hlt'
          have HS := hid (sgrL_snoc ⟨fg, bg, b, u, t⟩ zs k hlt')
          generalize sgrL ⟨fg, bg, b, u, t⟩ (zs.take k) = a1 at *
          obtain ⟨f1, g1, b1, u1, t1⟩ := a1
          have HC := fun W => withParameter_any f1 g1 b1 u1 t1 zs[k] W
          generalize one ⟨f1, g1, b1, u1, t1⟩ zs[k] = a2 at *
          generalize zs[k] = z at *
          obtain ⟨f2, g2, b2, u2, t2⟩ := a2
          have HC := hid HC
          have q0 : wr.cell? ⟨w.heap.size, 0, none⟩ = some (.int .i64 f1) := hx.cell 0
          have q1 : wr.cell? ⟨w.heap.size, 1, none⟩ = some (.int .i64 g1) := hx.cell 1
          have q2 : wr.cell? ⟨w.heap.size, 2, none⟩ = some (.bool b1) := hx.cell 2
          have q3 : wr.cell? ⟨w.heap.size, 3, none⟩ = some (.bool u1) := hx.cell 3
          have q4 : wr.cell? ⟨w.heap.size, 4, none⟩ = some (.bool t1) := hx.cell 4
          have HX := hid hx
          have HY := hid hy
          have HB := hid hb
          clear hx hy hb
          go_wp2_with fail
          refine (HC.out _).mono ?_
          simp only [AD.v]
          rintro e v2 ⟨rfl, hb2⟩
          have hx2 := HX.out.below hb2 (by omega)
          have p0 : v2.cell? ⟨w.heap.size, 0, none⟩ = some (.int .i64 f1) := hx2.cell 0
          have p1 : v2.cell? ⟨w.heap.size, 1, none⟩ = some (.int .i64 g1) := hx2.cell 1
          have p2 : v2.cell? ⟨w.heap.size, 2, none⟩ = some (.bool b1) := hx2.cell 2
          have p3 : v2.cell? ⟨w.heap.size, 3, none⟩ = some (.bool u1) := hx2.cell 3
          have p4 : v2.cell? ⟨w.heap.size, 4, none⟩ = some (.bool t1) := hx2.cell 4
          have pf : ∀ j, v2.frozen? ⟨w.heap.size, j, none⟩ = false := hx2.free
          have hz2 : w.heap.size < v2.heap.size := hx2.lt
          have HX2 := hid (hx2.set5 (.int .i64 f2) (.int .i64 g2) (.bool b2) (.bool u2) (.bool t2))
          have HY2 := hid ((HY.out.below hb2 (by omega)).other5 (show w.heap.size + 1 ≠ w.heap.size by omega) (.int .i64 f2) (.int .i64 g2) (.bool b2) (.bool u2) (.bool t2))
          have HB2 := hid (HB.out.trans (hb2.mono (by omega)))
          clear hx2 hb2
          go_wp2_with fail
          go_roundw
          case rel =>
            refine ⟨k + 1, by omega, by go_num, by rw [HS.out]; exact HX2.out, HY2.out, ?_⟩
            repeat (first | refine Below.setCell ?_ (by simp <;> omega) _)
            exact HB2.out
          case measure => simp [intOf]; omega
        · obtain rfl : n = k := by omega
          rw [show zs.take n = zs from List.take_of_length_le (by rw [HL.out]; exact Nat.le_refl _), ← HN.out] at hx
          have q0 : wr.cell? ⟨w.heap.size, 0, none⟩ = some (.int .i64 fS) := hx.cell 0
          have q1 : wr.cell? ⟨w.heap.size, 1, none⟩ = some (.int .i64 gS) := hx.cell 1
          have q2 : wr.cell? ⟨w.heap.size, 2, none⟩ = some (.bool bS) := hx.cell 2
          have q3 : wr.cell? ⟨w.heap.size, 3, none⟩ = some (.bool uS) := hx.cell 3
          have q4 : wr.cell? ⟨w.heap.size, 4, none⟩ = some (.bool tS) := hx.cell 4
          have y0 : wr.cell? ⟨w.heap.size + 1, 0, none⟩ = some (.int .i64 0) := hy.cell 0
          have y1 : wr.cell? ⟨w.heap.size + 1, 1, none⟩ = some (.int .i64 0) := hy.cell 1
          have y2 : wr.cell? ⟨w.heap.size + 1, 2, none⟩ = some (.bool false) := hy.cell 2
          have y3 : wr.cell? ⟨w.heap.size + 1, 3, none⟩ = some (.bool false) := hy.cell 3
          have y4 : wr.cell? ⟨w.heap.size + 1, 4, none⟩ = some (.bool false) := hy.cell 4
          have yf : ∀ j, wr.frozen? ⟨w.heap.size + 1, j, none⟩ = false := hy.free
          have HB := hid hb
          clear hx hy hb
          go_wp2_with fail
          refine bodyPost_ret (v := .agg #[.int .i64 fS, .int .i64 gS, .bool bS, .bool uS, .bool tS]) (by simp [results, Tryz.results138, go_sem, y0, y1, y2, y3, y4]) rfl ⟨rfl, ?_⟩
          repeat (first | refine Below.setCell ?_ (by simp <;> omega) _)
          exact HB.out
end Go.Proofs.YtgnpgkkjcloghaaGreat.Attr
