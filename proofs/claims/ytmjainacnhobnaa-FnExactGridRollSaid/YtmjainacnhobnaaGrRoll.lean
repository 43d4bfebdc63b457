/- GridRoll in the program: rows moved, in a copy. -/
import Derived.Test.YtmjainacnhobnaaGrAns
import Derived.Test.YtmjainacnhobnaaGrSlide
import Derived.Test.YtmjainacnhobnaaGrCopy
import Derived.Test.YtmjainacnhobnaaGrAtC
import Derived.Deep.RegionHeld3
import Derived.Deep.Cut
import Derived.Deep.CutRange
import Derived.Deep.DeepCutAuto
namespace Go.Proofs.Ytmjainacnhobnaa.Gr
open Go.RowKit Go.Proofs.Ytmjainacnhobnaa.Bytes Go.Proofs.Ytmjainacnhobnaa.Rows_ Go.Proofs.Ytmjainacnhobnaa.RowK
set_option linter.unusedVariables false
def inR (gh top bot : Int) : Bool := decide (0 ≤ top ∧ top ≤ bot ∧ bot < gh)
def rollT (gw gh : Int) (cs : List CellD) (top bot d : Int) : GridT :=
  if okG gw gh cs && inR gh top bot then (gw, gh, over cs (top * gw).toNat (shiftL cs (top * gw).toNat ((bot + 1 - top) * gw).toNat (-(gw * clampV d (-gh) gh)))) else zeroT
theorem rollT_no {gw gh top bot d : Int} {cs : List CellD} (h : (okG gw gh cs && inR gh top bot) = false) : rollT gw gh cs top bot d = zeroT := by unfold rollT; rw [h]; rfl
theorem rollT_yes {W H top bot : Nat} {d : Int} {cs : List CellD} (h : (okG (W : Int) (H : Int) cs && inR (H : Int) (top : Int) (bot : Int)) = true) (hx : top ≤ bot) : rollT (W : Int) (H : Int) cs (top : Int) (bot : Int) d = ((W : Int), (H : Int), over cs (top * W) (shiftL cs (top * W) ((bot + 1 - top) * W) (-((W : Int) * clampV d (-(H : Int)) (H : Int))))) := by
  unfold rollT; rw [h, ← Int.natCast_mul, show (bot : Int) + 1 - (top : Int) = ((bot + 1 - top : Nat) : Int) by omega, ← Int.natCast_mul]; rfl
theorem clampV_bd (x lo hi : Int) (h : lo ≤ hi) : lo ≤ clampV x lo hi ∧ clampV x lo hi ≤ hi := by unfold clampV; split <;> (try split) <;> omega
theorem mul_bd2 {a b : Int} (h1 : 0 ≤ a) (h2 : a ≤ 120) (h3 : -120 ≤ b) (h4 : b ≤ 120) : -14400 ≤ -a * b ∧ -a * b ≤ 14400 := by
  have p : a * b ≤ a * 120 := Int.mul_le_mul_of_nonneg_left h4 h1
  have q : a * (-120) ≤ a * b := Int.mul_le_mul_of_nonneg_left h3 h1
  rw [Int.neg_mul]; omega

set_option maxRecDepth 100000 in
set_option maxHeartbeats 1600000 in
theorem impl_GridRoll_no (gw gh : Int) (A : Option Addr) (n c : Nat) (cs : List CellD) (top bot d : Int) (w : World) (hr : RdC w w.heap.size A cs) (hl : cs.length = n) (hn : n ≤ 1099511627776) (hno : (okG gw gh cs && inR gh top bot) = false) :
    Calls Try.prog 15 #[.agg #[.int .i64 gw, .int .i64 gh, .slice A n c], .int .i64 top, .int .i64 bot, .int .i64 d] w (AnsT w zeroT) := by
  have hb0 := Lib.hid (((Below.refl w.heap.size w).alloc (Nat.le_refl _) (.cells #[.int .i64 gw, .int .i64 gh, .slice A n c] 25)).alloc (by simp) (.cells #[.int .i64 0, .int .i64 0, .slice none 0 0] 25))
  have HK := Lib.hid (impl_GridOk_any gw gh A n c cs _ ((hr.below (Nat.le_refl _) hb0.out).more (by simp; omega)) hl hn)
  clear hr hl
  have s1 : w.heap.size < w.heap.size + 1 + 1 := by omega
  have s2 : w.heap.size + 1 < w.heap.size + 1 + 1 := by omega
  cases ho : okG gw gh cs
  · have HO := Lib.hid ho
    clear ho hno
    go_enter Try.func15, Try.ntmps15
    go_wp2_with fail
    refine HK.out.mono ?_
    rintro e v1 ⟨rfl, hb1⟩
    rw [HO.out]
    obtain ⟨hc, hf⟩ := Rows_.bcell hb1
    have HB1 := Lib.hid (hb0.out.trans (hb1.mono (by simp; omega)))
    have hz : w.heap.size + 1 < v1.heap.size := by have := hb1.size; simp at this; omega
    have hz0 : w.heap.size < v1.heap.size := by omega
    clear hb1
    go_wp2_with fail
    refine bodyPost_ret (v := .agg #[.int .i64 0, .int .i64 0, .slice none 0 0]) (by simp [results, Try.results15, go_sem, hc]) rfl (ansZero ?_)
    exact ((HB1.out.setCell (by simp) _).setCell (by simp) _).setCell (by simp) _
  · rw [ho, Bool.true_and] at hno
    have HO := Lib.hid ho
    have hno' : ¬ (0 ≤ top ∧ top ≤ bot ∧ bot < gh) := of_decide_eq_false hno
    clear ho hno
    by_cases h1 : 0 ≤ top
    · by_cases h2 : top ≤ bot
      · have h3 : gh ≤ bot := by omega
        clear hno'
        go_enter Try.func15, Try.ntmps15
        go_wp2_with fail
        refine HK.out.mono ?_
        rintro e v1 ⟨rfl, hb1⟩
        rw [HO.out]
        obtain ⟨hc, hf⟩ := Rows_.bcell hb1
        have HB1 := Lib.hid (hb0.out.trans (hb1.mono (by simp; omega)))
        have hz : w.heap.size + 1 < v1.heap.size := by have := hb1.size; simp at this; omega
        have hz0 : w.heap.size < v1.heap.size := by omega
        clear hb1
        go_wp2_with fail
        refine bodyPost_ret (v := .agg #[.int .i64 0, .int .i64 0, .slice none 0 0]) (by simp [results, Try.results15, go_sem, hc]) rfl (ansZero ?_)
        exact ((HB1.out.setCell (by simp) _).setCell (by simp) _).setCell (by simp) _
      · clear hno'
        go_enter Try.func15, Try.ntmps15
        go_wp2_with fail
        refine HK.out.mono ?_
        rintro e v1 ⟨rfl, hb1⟩
        rw [HO.out]
        obtain ⟨hc, hf⟩ := Rows_.bcell hb1
        have HB1 := Lib.hid (hb0.out.trans (hb1.mono (by simp; omega)))
        have hz : w.heap.size + 1 < v1.heap.size := by have := hb1.size; simp at this; omega
        have hz0 : w.heap.size < v1.heap.size := by omega
        clear hb1
        go_wp2_with fail
        refine bodyPost_ret (v := .agg #[.int .i64 0, .int .i64 0, .slice none 0 0]) (by simp [results, Try.results15, go_sem, hc]) rfl (ansZero ?_)
        exact ((HB1.out.setCell (by simp) _).setCell (by simp) _).setCell (by simp) _
    · clear hno'
      go_enter Try.func15, Try.ntmps15
      go_wp2_with fail
      refine HK.out.mono ?_
      rintro e v1 ⟨rfl, hb1⟩
      rw [HO.out]
      obtain ⟨hc, hf⟩ := Rows_.bcell hb1
      have HB1 := Lib.hid (hb0.out.trans (hb1.mono (by simp; omega)))
      have hz : w.heap.size + 1 < v1.heap.size := by have := hb1.size; simp at this; omega
      have hz0 : w.heap.size < v1.heap.size := by omega
      clear hb1
      go_wp2_with fail
      refine bodyPost_ret (v := .agg #[.int .i64 0, .int .i64 0, .slice none 0 0]) (by simp [results, Try.results15, go_sem, hc]) rfl (ansZero ?_)
      exact ((HB1.out.setCell (by simp) _).setCell (by simp) _).setCell (by simp) _

set_option maxRecDepth 100000 in
set_option maxHeartbeats 3200000 in
theorem rollRows_any (W H top bot g n c base : Nat) (d : Int) (cs : List CellD) (w : World) (ho : OwnC w base (some ⟨g, 0, none⟩) n c cs) (hn : n ≤ 1048576) (htb : top ≤ bot) (hy : bot < H) (hW1 : 1 ≤ W) (hW : W ≤ 120) (hH : H ≤ 120) (hWH : n = W * H) :
    Calls Try.prog 52 #[.agg #[.int .i64 (W : Int), .int .i64 (H : Int), .slice (some ⟨g, 0, none⟩) n c], .int .i64 (top : Int), .int .i64 (bot : Int), .int .i64 d] w fun e w' => e = .returned (.tuple #[]) ∧ OwnC w' base (some ⟨g, 0, none⟩) n c (over cs (top * W) (shiftL cs (top * W) ((bot + 1 - top) * W) (-((W : Int) * clampV d (-(H : Int)) (H : Int))))) ∧ Only (fun i => i = g) w w' := by
  have X0 := Lib.hid (BoxG.new w #[.int .i64 (W : Int), .int .i64 (H : Int), .slice (some ⟨g, 0, none⟩) n c])
  have hhi : (bot + 1) * W ≤ n := by
    have h1 : (bot + 1) * W ≤ H * W := Nat.mul_le_mul_right W hy
    rw [Nat.mul_comm H W] at h1; omega
  have hlt : top * W < (bot + 1) * W := Nat.mul_lt_mul_of_pos_right (by omega) (by omega)
  have hmm : (bot + 1 - top) * W = (bot + 1) * W - top * W := Nat.sub_mul _ _ _
  obtain ⟨cv, hcv⟩ : ∃ cv, cv = clampV d (-(H : Int)) (H : Int) := ⟨_, rfl⟩
  obtain ⟨cv1, cv2⟩ := clampV_bd d (-(H : Int)) (H : Int) (by omega)
  rw [← hcv] at cv1 cv2
  obtain ⟨dd, hdd⟩ : ∃ dd, dd = -(W : Int) * cv := ⟨_, rfl⟩
  obtain ⟨dd1, dd2⟩ := mul_bd2 (a := (W : Int)) (b := cv) (by omega) (by omega) (by omega) (by omega)
  rw [← hdd] at dd1 dd2
  have hrr : -((W : Int) * clampV d (-(H : Int)) (H : Int)) = dd := by rw [← hcv, hdd, Int.neg_mul]
  have e1 : IntKind.i64.wrap (-(W : Int) * cv) = dd := by rw [← hdd]; exact IntWalk.i64_in _ (by omega)
  have HCV := Lib.hid hcv.symm
  rw [hrr]
  rw [hmm]
  obtain ⟨lo, hlo⟩ : ∃ lo, lo = top * W := ⟨_, rfl⟩
  obtain ⟨hi, hhi'⟩ : ∃ hi, hi = (bot + 1) * W := ⟨_, rfl⟩
  have t1 : (top : Int) * (W : Int) = (lo : Int) := by rw [hlo, Int.natCast_mul]
  have t2 : ((bot : Int) + 1) * (W : Int) = (hi : Int) := by rw [hhi', Int.natCast_mul]; rfl
  have HT := Lib.hid (And.intro t1 t2)
  rw [← hlo] at hlt ⊢
  rw [← hhi'] at hlt hhi ⊢
  clear hcv hdd hrr hmm hlo hhi' t1 t2 cv1 cv2
  have hcap := ho.cap
  have hg := ho.blk g rfl
  have hal := (Below.refl w.heap.size w).alloc (Nat.le_refl _) (.cells #[.int .i64 (W : Int), .int .i64 (H : Int), .slice (some ⟨g, 0, none⟩) n c] 25)
  have HO3 := Lib.hid (ho.below (Nat.le_refl _) hal)
  have HB3a := Lib.hid hal
  have HRO := Lib.hid (fun V => rowsOf_any (W : Int) (H : Int) (top : Int) ((bot : Int) + 1) g 0 n c lo hi V HT.out.1 HT.out.2 hlt hhi hcap.1 (by omega) hcap.2)
  rw [Nat.zero_add] at HRO
  have HS := Lib.hid (fun (V : World) (h : OwnC V base (some ⟨g, 0, none⟩) n c cs) => slide_any lo (hi - lo) (c - lo) dd V h (by omega) (by omega) (by omega) (by omega))
  have HCL := Lib.hid (fun V => HCV.out ▸ clamp_anyG d (-(H : Int)) (H : Int) (by omega) V)
  clear hal ho hWH
  obtain ⟨v3a, hv3a⟩ : ∃ v, v = w.alloc (.cells #[.int .i64 (W : Int), .int .i64 (H : Int), .slice (some ⟨g, 0, none⟩) n c] 25) := ⟨_, rfl⟩
  have HV3 := Lib.hid hv3a.symm
  rw [← hv3a] at X0 HO3 HB3a
  have hz5 : w.heap.size < v3a.heap.size := X0.out.lt
  clear hv3a
  have e2 : IntKind.i64.wrap ((bot : Int) + 1) = (bot : Int) + 1 := IntWalk.i64_in _ (by omega)
  have e3 : IntKind.i64.wrap (-(W : Int)) = -(W : Int) := IntWalk.i64_in _ (by omega)
  have e4 : IntKind.i64.wrap (-(H : Int)) = -(H : Int) := IntWalk.i64_in _ (by omega)
  go_enter Try.func52, Try.ntmps52
  go_upto_region 1 with fail
  rw [HV3.out]
  clear HV3
  have k0 : v3a.cell? ⟨w.heap.size, 0, none⟩ = some (.int .i64 (W : Int)) := X0.out.cell 0
  have k1 : v3a.cell? ⟨w.heap.size, 1, none⟩ = some (.int .i64 (H : Int)) := X0.out.cell 1
  have k2 : v3a.cell? ⟨w.heap.size, 2, none⟩ = some (.slice (some ⟨g, 0, none⟩) n c) := X0.out.cell 2
  go_region_held3 (fun w' => w'.cell? ⟨w.heap.size, 0, none⟩ = some (.int .i64 (W : Int)) ∧ w'.cell? ⟨w.heap.size, 1, none⟩ = some (.int .i64 (H : Int)) ∧ w'.cell? ⟨w.heap.size, 2, none⟩ = some (.slice (some ⟨g, 0, none⟩) n c)) (go_keep)
    (first
      | (go_at_call 115; (with_reducible refine (HRO.out _).mono ?_); rintro e v4 ⟨rfl, hb4'⟩; have hb4 : Below v3a.heap.size v3a v4 := undrew hb4'; have j0 := (hb4.cell (p := ⟨w.heap.size, 0, none⟩) hz5).trans k0; have j1 := (hb4.cell (p := ⟨w.heap.size, 1, none⟩) hz5).trans k1; have j2 := (hb4.cell (p := ⟨w.heap.size, 2, none⟩) hz5).trans k2; have HO4 := Lib.hid (HO3.out.below (Nat.le_refl _) hb4); have X0d := Lib.hid (X0.out.below hb4 hz5); have HB4 := Lib.hid (HB3a.out.trans (hb4.mono (by omega))); clear hb4 hb4')
      | (go_at_call 116; (with_reducible refine (HCL.out _).mono ?_); rintro e v9 ⟨rfl, rfl⟩)
      | (go_at_call 54; (with_reducible refine (HS.out _ HO4.out).mono ?_); rintro e v5 ⟨rfl, ho5, on5⟩; have x0 := X0d.out.only on5 (by omega); have i0 : v5.cell? ⟨w.heap.size, 0, none⟩ = some (.int .i64 (W : Int)) := x0.cell 0; have i1 : v5.cell? ⟨w.heap.size, 1, none⟩ = some (.int .i64 (H : Int)) := x0.cell 1; have i2 : v5.cell? ⟨w.heap.size, 2, none⟩ = some (.slice (some ⟨g, 0, none⟩) n c) := x0.cell 2; have HF := Lib.hid (And.intro ho5 ((Only.below HB4.out (Nat.le_refl _)).trans on5)); clear x0 on5 ho5))
  all_goals
    go_wp2_with fail
    go_end0
    exact ⟨rfl, HF.out⟩
set_option maxRecDepth 100000 in
set_option maxHeartbeats 3200000 in
theorem impl_GridRoll_yes (W H : Nat) (b o n c : Nat) (cs : List CellD) (top bot : Nat) (d : Int) (w : World) (hr : RdC w w.heap.size (some ⟨b, o, none⟩) cs) (hl : cs.length = n) (hn : n ≤ 1048576) (ho : okG (W : Int) (H : Int) cs = true) (htb : top ≤ bot) (hy : bot < H) (hW1 : 1 ≤ W) (hW : W ≤ 120) (hH : H ≤ 120) (hWH : n = W * H) :
    Calls Try.prog 15 #[.agg #[.int .i64 (W : Int), .int .i64 (H : Int), .slice (some ⟨b, o, none⟩) n c], .int .i64 (top : Int), .int .i64 (bot : Int), .int .i64 d] w (AnsT w ((W : Int), (H : Int), over cs (top * W) (shiftL cs (top * W) ((bot + 1 - top) * W) (-((W : Int) * clampV d (-(H : Int)) (H : Int)))))) := by
  have hb0 := Lib.hid (((Below.refl w.heap.size w).alloc (Nat.le_refl _) (.cells #[.int .i64 (W : Int), .int .i64 (H : Int), .slice (some ⟨b, o, none⟩) n c] 25)).alloc (by simp) (.cells #[.int .i64 0, .int .i64 0, .slice none 0 0] 25))
  have HK := Lib.hid (impl_GridOk_any (W : Int) (H : Int) (some ⟨b, o, none⟩) n c cs _ ((hr.below (Nat.le_refl _) hb0.out).more (by simp; omega)) hl (by omega))
  have X0 := Lib.hid ((BoxG.new w #[.int .i64 (W : Int), .int .i64 (H : Int), .slice (some ⟨b, o, none⟩) n c]).below ((Below.refl _ _).alloc (Nat.le_refl _) (.cells #[.int .i64 0, .int .i64 0, .slice none 0 0] 25)) (by simp))
  have x1 := BoxG.new (w.alloc (.cells #[.int .i64 (W : Int), .int .i64 (H : Int), .slice (some ⟨b, o, none⟩) n c] 25)) #[.int .i64 0, .int .i64 0, .slice none 0 0]
  simp only [World.size_alloc] at x1
  have X1 := Lib.hid x1
  have HO := Lib.hid ho
  have hhi : (bot + 1) * W ≤ n := by
    have h1 : (bot + 1) * W ≤ H * W := Nat.mul_le_mul_right W hy
    rw [Nat.mul_comm H W] at h1; omega
  have hlt : top * W < (bot + 1) * W := Nat.mul_lt_mul_of_pos_right (by omega) (by omega)
  have hmm : (bot + 1 - top) * W = (bot + 1) * W - top * W := Nat.sub_mul _ _ _
  have HR := Lib.hid hr
  have HL := Lib.hid hl
  have HCP := Lib.hid (fun V (h : Below w.heap.size w V) => copyGrid_any (W : Int) (H : Int) (some ⟨b, o, none⟩) n c cs V (fun h => by cases h) ((HR.out.below (Nat.le_refl _) h).more h.size) HL.out (by omega))
  have HOL := Lib.hid (show (over cs (top * W) (shiftL cs (top * W) ((bot + 1 - top) * W) (-((W : Int) * clampV d (-(H : Int)) (H : Int))))).length = n by rw [over_len (by rw [shiftL_len, hmm]; omega)]; exact hl)
  have hpos : 0 < n := by omega
  have HWH := Lib.hid hWH
  clear ho hr hl x1 hmm hlt hhi hWH
  go_enter Try.func15, Try.ntmps15
  go_wp2_with fail
  refine HK.out.mono ?_
  rintro e v1 ⟨rfl, hb1⟩
  rw [HO.out]
  have x0 := X0.out.below hb1 (by simp; omega)
  have X1a := Lib.hid (X1.out.below hb1 (by simp))
  have X0a := Lib.hid x0
  have HB1 := Lib.hid (hb0.out.trans (hb1.mono (by simp; omega)))
  have q0 := x0.cell 0
  have q1 := x0.cell 1
  have q2 := x0.cell 2
  have hz : w.heap.size + 1 < v1.heap.size := by have := hb1.size; simp at this; omega
  clear hb1 x0 X0 X1
  go_wp2_with fail
  refine (HCP.out _ HB1.out).mono ?_
  rintro e v3 ⟨A3, c3, rfl, ho3, hb3⟩
  obtain ⟨g, rfl⟩ := ho3.addr (by omega)
  have hcap := ho3.cap
  clear q0 q1 q2
  have hg := ho3.blk g rfl
  have HB3 := Lib.hid (HB1.out.trans (hb3.mono (by omega)))
  have hz3 : w.heap.size + 1 < v3.heap.size := by have := hb3.size; omega
  have hal := (Below.refl v3.heap.size v3).alloc (Nat.le_refl _) (.cells #[.int .i64 (W : Int), .int .i64 (H : Int), .slice (some ⟨g, 0, none⟩) n c3] 25)
  have X1c := Lib.hid ((X1a.out.below hb3 (by omega)).below hal (by omega))
  have X9 := Lib.hid (BoxG.new v3 #[.int .i64 (W : Int), .int .i64 (H : Int), .slice (some ⟨g, 0, none⟩) n c3])
  have HO3 := Lib.hid (ho3.below (Nat.le_refl _) hal)
  have HB3a := Lib.hid (HB3.out.trans (hal.mono (by omega)))
  have HRR := Lib.hid (fun (V : World) (h : OwnC V v1.heap.size (some ⟨g, 0, none⟩) n c3 cs) => rollRows_any W H top bot g n c3 v1.heap.size d cs V h hn htb hy hW1 hW hH HWH.out)
  clear hal hb3 ho3 X1a HB3
  go_wp2_with fail
  refine (HRR.out _ HO3.out).mono ?_
  rintro e v5 ⟨rfl, ho5, on5⟩
  have x1 := X1c.out.only on5 (by omega)
  have x9 := X9.out.only on5 (by omega)
  have HO5 := Lib.hid (ho5.more (base' := w.heap.size + 2) (by omega))
  have HB5 := Lib.hid (Only.below_ on5 HB3a.out HB3a.out.size (fun i hi => by omega))
  have hz5 : w.heap.size + 1 < v5.heap.size := Nat.lt_of_lt_of_le X1c.out.lt on5.size
  have hz6 : v3.heap.size < v5.heap.size := Nat.lt_of_lt_of_le X9.out.lt on5.size
  clear on5 ho5
  have q0 := x9.cell 0
  have q1 := x9.cell 1
  have q2 := x9.cell 2
  have p0 := x1.cell 0
  have p1 := x1.cell 1
  have p2 := x1.cell 2
  have g0 := x1.free 0
  have g1 := x1.free 1
  have g2 := x1.free 2
  clear x1 x9
  go_wp2_with fail
  refine bodyPost_ret (v := .agg #[.int .i64 (W : Int), .int .i64 (H : Int), .slice (some ⟨g, 0, none⟩) n c3]) (by simp [results, Try.results15, go_sem, p0, p1, p2]) rfl (ansT HOL.out ?_ ?_)
  · exact (((HO5.out.setBox (w.heap.size + 1) 0 _ (by omega)).setBox (w.heap.size + 1) 1 _ (by omega)).setBox (w.heap.size + 1) 2 _ (by omega)).more (by omega)
  · exact ((HB5.out.setCell (by simp) _).setCell (by simp) _).setCell (by simp) _
end Go.Proofs.Ytmjainacnhobnaa.Gr
