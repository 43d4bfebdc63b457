/- GridRoll in the program: rows moved, in a copy. -/
import Derived.Test.YtmccggjogoaakaaGrRollB
import Derived.Test.YtmccggjogoaakaaKiE
import Derived.Test.YtmccggjogoaakaaGrSlide
import Derived.Test.YtmccggjogoaakaaGrCopy
import Derived.Deep.RegionHeld3
import Derived.Deep.Cut
import Derived.Deep.CutRange
import Derived.Deep.DeepCutAuto
import Derived.Test.YtmccggjogoaakaaGrOk
namespace Go.Proofs.Ytmccggjogoaakaa.Gr
open Go.RowKit Go.Proofs.Ytmccggjogoaakaa.Bytes Go.Proofs.Ytmccggjogoaakaa.Rows_ Go.Proofs.Ytmccggjogoaakaa.RowK
set_option linter.unusedVariables false
set_option maxRecDepth 100000 in
set_option maxHeartbeats 1600000 in
theorem impl_GridRoll_no (gw gh : Int) (A : Option Addr) (n c : Nat) (cs : List CellD) (top bot d : Int) (w : World) (hr : RdC w w.heap.size A cs) (hl : cs.length = n) (hn : n ≤ 1099511627776) (hno : (okG gw gh cs && inR gh top bot) = false) :
    Calls Try.prog 12 #[.agg #[.int .i64 gw, .int .i64 gh, .slice A n c], .int .i64 top, .int .i64 bot, .int .i64 d] w (AnsT w zeroT) := by
  have hb0 := Lib.hid (((Below.refl w.heap.size w).alloc (Nat.le_refl _) (.cells #[.int .i64 gw, .int .i64 gh, .slice A n c] 28)).alloc (by simp) (.cells #[.int .i64 0, .int .i64 0, .slice none 0 0] 28))
  have HK := Lib.hid (impl_GridOk_any gw gh A n c cs _ ((hr.below (Nat.le_refl _) hb0.out).more (by simp; omega)) hl hn)
  clear hr hl
  have s1 : w.heap.size < w.heap.size + 1 + 1 := by omega
  have s2 : w.heap.size + 1 < w.heap.size + 1 + 1 := by omega
  cases ho : okG gw gh cs
  · have HO := Lib.hid ho
    clear ho hno
    go_enter Try.func12, Try.ntmps12
    go_wp2_with fail
    refine HK.out.mono ?_
    rintro e v1 ⟨rfl, hb1⟩
    rw [HO.out]
    obtain ⟨hc, hf⟩ := Rows_.bcell hb1
    have HB1 := Lib.hid (hb0.out.trans (hb1.mono (by simp; omega)))
    have hz : w.heap.size + 1 < v1.heap.size := by have := hb1.size; simp at this; omega
    have hz0 : w.heap.size < v1.heap.size := by omega
    clear hb1
    go_wp2_with fail
    refine bodyPost_ret (v := .agg #[.int .i64 0, .int .i64 0, .slice none 0 0]) (by simp [results, Try.results12, go_sem, hc]) rfl (ansZero ?_)
    exact ((HB1.out.setCell (by simp) _).setCell (by simp) _).setCell (by simp) _
  · rw [ho, Bool.true_and] at hno
    have HO := Lib.hid ho
    have hno' : ¬ (0 ≤ top ∧ top ≤ bot ∧ bot < gh) := of_decide_eq_false hno
    clear ho hno
    by_cases h1 : 0 ≤ top
    · by_cases h2 : top ≤ bot
      · have h3 : gh ≤ bot := by omega
        clear hno'
        go_enter Try.func12, Try.ntmps12
        go_wp2_with fail
        refine HK.out.mono ?_
        rintro e v1 ⟨rfl, hb1⟩
        rw [HO.out]
        obtain ⟨hc, hf⟩ := Rows_.bcell hb1
        have HB1 := Lib.hid (hb0.out.trans (hb1.mono (by simp; omega)))
        have hz : w.heap.size + 1 < v1.heap.size := by have := hb1.size; simp at this; omega
        have hz0 : w.heap.size < v1.heap.size := by omega
        clear hb1
        go_wp2_with fail
        refine bodyPost_ret (v := .agg #[.int .i64 0, .int .i64 0, .slice none 0 0]) (by simp [results, Try.results12, go_sem, hc]) rfl (ansZero ?_)
        exact ((HB1.out.setCell (by simp) _).setCell (by simp) _).setCell (by simp) _
      · clear hno'
        go_enter Try.func12, Try.ntmps12
        go_wp2_with fail
        refine HK.out.mono ?_
        rintro e v1 ⟨rfl, hb1⟩
        rw [HO.out]
        obtain ⟨hc, hf⟩ := Rows_.bcell hb1
        have HB1 := Lib.hid (hb0.out.trans (hb1.mono (by simp; omega)))
        have hz : w.heap.size + 1 < v1.heap.size := by have := hb1.size; simp at this; omega
        have hz0 : w.heap.size < v1.heap.size := by omega
        clear hb1
        go_wp2_with fail
        refine bodyPost_ret (v := .agg #[.int .i64 0, .int .i64 0, .slice none 0 0]) (by simp [results, Try.results12, go_sem, hc]) rfl (ansZero ?_)
        exact ((HB1.out.setCell (by simp) _).setCell (by simp) _).setCell (by simp) _
    · clear hno'
      go_enter Try.func12, Try.ntmps12
      go_wp2_with fail
      refine HK.out.mono ?_
      rintro e v1 ⟨rfl, hb1⟩
      rw [HO.out]
      obtain ⟨hc, hf⟩ := Rows_.bcell hb1
      have HB1 := Lib.hid (hb0.out.trans (hb1.mono (by simp; omega)))
      have hz : w.heap.size + 1 < v1.heap.size := by have := hb1.size; simp at this; omega
      have hz0 : w.heap.size < v1.heap.size := by omega
      clear hb1
      go_wp2_with fail
      refine bodyPost_ret (v := .agg #[.int .i64 0, .int .i64 0, .slice none 0 0]) (by simp [results, Try.results12, go_sem, hc]) rfl (ansZero ?_)
      exact ((HB1.out.setCell (by simp) _).setCell (by simp) _).setCell (by simp) _
set_option maxRecDepth 100000 in
set_option maxHeartbeats 3200000 in
theorem impl_GridRoll_yes (W H : Nat) (b o n c : Nat) (cs : List CellD) (top bot : Nat) (d : Int) (w : World) (hr : RdC w w.heap.size (some ⟨b, o, none⟩) cs) (hl : cs.length = n) (hn : n ≤ 1048576) (ho : okG (W : Int) (H : Int) cs = true) (htb : top ≤ bot) (hy : bot < H) (hW1 : 1 ≤ W) (hW : W ≤ 120) (hH : H ≤ 120) (hWH : n = W * H) :
    Calls Try.prog 12 #[.agg #[.int .i64 (W : Int), .int .i64 (H : Int), .slice (some ⟨b, o, none⟩) n c], .int .i64 (top : Int), .int .i64 (bot : Int), .int .i64 d] w (AnsT w ((W : Int), (H : Int), over cs (top * W) (shiftL cs (top * W) ((bot + 1 - top) * W) (-((W : Int) * clampV d (-(H : Int)) (H : Int)))))) := by
  have hb0 := Lib.hid (((Below.refl w.heap.size w).alloc (Nat.le_refl _) (.cells #[.int .i64 (W : Int), .int .i64 (H : Int), .slice (some ⟨b, o, none⟩) n c] 28)).alloc (by simp) (.cells #[.int .i64 0, .int .i64 0, .slice none 0 0] 28))
  have HK := Lib.hid (impl_GridOk_any (W : Int) (H : Int) (some ⟨b, o, none⟩) n c cs _ ((hr.below (Nat.le_refl _) hb0.out).more (by simp; omega)) hl (by omega))
  have X0 := Lib.hid ((BoxG.new w #[.int .i64 (W : Int), .int .i64 (H : Int), .slice (some ⟨b, o, none⟩) n c]).below ((Below.refl _ _).alloc (Nat.le_refl _) (.cells #[.int .i64 0, .int .i64 0, .slice none 0 0] 28)) (by simp))
  have x1 := BoxG.new (w.alloc (.cells #[.int .i64 (W : Int), .int .i64 (H : Int), .slice (some ⟨b, o, none⟩) n c] 28)) #[.int .i64 0, .int .i64 0, .slice none 0 0]
  simp only [World.size_alloc] at x1
  have X1 := Lib.hid x1
  have HO := Lib.hid ho
  have hhi : (bot + 1) * W ≤ n := by
    have h1 : (bot + 1) * W ≤ H * W := Nat.mul_le_mul_right W hy
    rw [Nat.mul_comm H W] at h1; omega
  have hlt : top * W < (bot + 1) * W := Nat.mul_lt_mul_of_pos_right (by omega) (by omega)
  have hmm : (bot + 1 - top) * W = (bot + 1) * W - top * W := Nat.sub_mul _ _ _
  have HR := Lib.hid hr
  have HL := Lib.hid hl
  have HCP := Lib.hid (fun V (h : Below w.heap.size w V) => copyGrid_any (W : Int) (H : Int) (some ⟨b, o, none⟩) n c cs V (fun h => by cases h) ((HR.out.below (Nat.le_refl _) h).more h.size) HL.out (by omega))
  have HOL := Lib.hid (show (over cs (top * W) (shiftL cs (top * W) ((bot + 1 - top) * W) (-((W : Int) * clampV d (-(H : Int)) (H : Int))))).length = n by rw [over_len (by rw [shiftL_len, hmm]; omega)]; exact hl)
  have hpos : 0 < n := by omega
  have HWH := Lib.hid hWH
  clear ho hr hl x1 hmm hlt hhi hWH
  go_enter Try.func12, Try.ntmps12
  go_wp2_with fail
  refine HK.out.mono ?_
  rintro e v1 ⟨rfl, hb1⟩
  rw [HO.out]
  have x0 := X0.out.below hb1 (by simp; omega)
  have X1a := Lib.hid (X1.out.below hb1 (by simp))
  have X0a := Lib.hid x0
  have HB1 := Lib.hid (hb0.out.trans (hb1.mono (by simp; omega)))
  have q0 := x0.cell 0
  have q1 := x0.cell 1
  have q2 := x0.cell 2
  have hz : w.heap.size + 1 < v1.heap.size := by have := hb1.size; simp at this; omega
  clear hb1 x0 X0 X1
  go_wp2_with fail
  refine (HCP.out _ HB1.out).mono ?_
  rintro e v3 ⟨A3, c3, rfl, ho3, hb3⟩
  obtain ⟨g, rfl⟩ := ho3.addr (by omega)
  have hcap := ho3.cap
  clear q0 q1 q2
  have hg := ho3.blk g rfl
  have HB3 := Lib.hid (HB1.out.trans (hb3.mono (by omega)))
  have hz3 : w.heap.size + 1 < v3.heap.size := by have := hb3.size; omega
  have hal := (Below.refl v3.heap.size v3).alloc (Nat.le_refl _) (.cells #[.int .i64 (W : Int), .int .i64 (H : Int), .slice (some ⟨g, 0, none⟩) n c3] 28)
  have X1c := Lib.hid ((X1a.out.below hb3 (by omega)).below hal (by omega))
  have X9 := Lib.hid (BoxG.new v3 #[.int .i64 (W : Int), .int .i64 (H : Int), .slice (some ⟨g, 0, none⟩) n c3])
  have HO3 := Lib.hid (ho3.below (Nat.le_refl _) hal)
  have HB3a := Lib.hid (HB3.out.trans (hal.mono (by omega)))
  have HRR := Lib.hid (fun (V : World) (h : OwnC V v1.heap.size (some ⟨g, 0, none⟩) n c3 cs) => rollRows_any W H top bot g n c3 v1.heap.size d cs V h hn htb hy hW1 hW hH HWH.out)
  clear hal hb3 ho3 X1a HB3
  go_wp2_with fail
  refine (HRR.out _ HO3.out).mono ?_
  rintro e v5 ⟨rfl, ho5, on5⟩
  have x1 := X1c.out.only on5 (by omega)
  have x9 := X9.out.only on5 (by omega)
  have HO5 := Lib.hid (ho5.more (base' := w.heap.size + 2) (by omega))
  have HB5 := Lib.hid (Only.below_ on5 HB3a.out HB3a.out.size (fun i hi => by omega))
  have hz5 : w.heap.size + 1 < v5.heap.size := Nat.lt_of_lt_of_le X1c.out.lt on5.size
  have hz6 : v3.heap.size < v5.heap.size := Nat.lt_of_lt_of_le X9.out.lt on5.size
  clear on5 ho5
  have q0 := x9.cell 0
  have q1 := x9.cell 1
  have q2 := x9.cell 2
  have p0 := x1.cell 0
  have p1 := x1.cell 1
  have p2 := x1.cell 2
  have g0 := x1.free 0
  have g1 := x1.free 1
  have g2 := x1.free 2
  clear x1 x9
  go_wp2_with fail
  refine bodyPost_ret (v := .agg #[.int .i64 (W : Int), .int .i64 (H : Int), .slice (some ⟨g, 0, none⟩) n c3]) (by simp [results, Try.results12, go_sem, p0, p1, p2]) rfl (ansT HOL.out ?_ ?_)
  · exact (((HO5.out.setBox (w.heap.size + 1) 0 _ (by omega)).setBox (w.heap.size + 1) 1 _ (by omega)).setBox (w.heap.size + 1) 2 _ (by omega)).more (by omega)
  · exact ((HB5.out.setCell (by simp) _).setCell (by simp) _).setCell (by simp) _
end Go.Proofs.Ytmccggjogoaakaa.Gr

