/- GridRoll in the program: rows moved, in a copy. -/
import Derived.Test.YthlpchojlddnbaaKiE
import Derived.Test.YthlpchojlddnbaaGrSlide
import Derived.Test.YthlpchojlddnbaaGrCopy
import Derived.Deep.RegionHeld3
import Derived.Deep.Cut
import Derived.Deep.CutRange
import Derived.Deep.DeepCutAuto
namespace Go.Proofs.Ythlpchojlddnbaa.Gr
open Go.RowKit Go.Proofs.Ythlpchojlddnbaa.Bytes Go.Proofs.Ythlpchojlddnbaa.Rows_ Go.Proofs.Ythlpchojlddnbaa.RowK
set_option linter.unusedVariables false
def inR (gh top bot : Int) : Bool := decide (0 ≤ top ∧ top ≤ bot ∧ bot < gh)
def rollT (gw gh : Int) (cs : List CellD) (top bot d : Int) : GridT :=
  if okG gw gh cs && inR gh top bot then (gw, gh, over cs (top * gw).toNat (shiftL cs (top * gw).toNat ((bot + 1 - top) * gw).toNat (-(gw * clampV d (-gh) gh)))) else zeroT
theorem rollT_no {gw gh top bot d : Int} {cs : List CellD} (h : (okG gw gh cs && inR gh top bot) = false) : rollT gw gh cs top bot d = zeroT := by unfold rollT; rw [h]; rfl
theorem rollT_yes {W H top bot : Nat} {d : Int} {cs : List CellD} (h : (okG (W : Int) (H : Int) cs && inR (H : Int) (top : Int) (bot : Int)) = true) (hx : top ≤ bot) : rollT (W : Int) (H : Int) cs (top : Int) (bot : Int) d = ((W : Int), (H : Int), over cs (top * W) (shiftL cs (top * W) ((bot + 1 - top) * W) (-((W : Int) * clampV d (-(H : Int)) (H : Int))))) := by
  unfold rollT; rw [h, ← Int.natCast_mul, show (bot : Int) + 1 - (top : Int) = ((bot + 1 - top : Nat) : Int) by omega, ← Int.natCast_mul]; rfl
theorem clampV_bd (x lo hi : Int) (h : lo ≤ hi) : lo ≤ clampV x lo hi ∧ clampV x lo hi ≤ hi := by unfold clampV; split <;> (try split) <;> omega
theorem mul_bd2 {a b : Int} (h1 : 0 ≤ a) (h2 : a ≤ 120) (h3 : -120 ≤ b) (h4 : b ≤ 120) : -14400 ≤ -a * b ∧ -a * b ≤ 14400 := by
  have p : a * b ≤ a * 120 := Int.mul_le_mul_of_nonneg_left h4 h1
  have q : a * (-120) ≤ a * b := Int.mul_le_mul_of_nonneg_left h3 h1
  rw [Int.neg_mul]; omega

set_option maxRecDepth 100000 in
set_option maxHeartbeats 3200000 in
theorem rollRows_any (W H top bot g n c base : Nat) (d : Int) (cs : List CellD) (w : World) (ho : OwnC w base (some ⟨g, 0, none⟩) n c cs) (hn : n ≤ 1048576) (htb : top ≤ bot) (hy : bot < H) (hW1 : 1 ≤ W) (hW : W ≤ 120) (hH : H ≤ 120) (hWH : n = W * H) :
    Calls Try.prog 128 #[.agg #[.int .i64 (W : Int), .int .i64 (H : Int), .slice (some ⟨g, 0, none⟩) n c], .int .i64 (top : Int), .int .i64 (bot : Int), .int .i64 d] w fun e w' => e = .returned (.tuple #[]) ∧ OwnC w' base (some ⟨g, 0, none⟩) n c (over cs (top * W) (shiftL cs (top * W) ((bot + 1 - top) * W) (-((W : Int) * clampV d (-(H : Int)) (H : Int))))) ∧ Only (fun i => i = g) w w' := by
  have X0 := Lib.hid (BoxG.new w #[.int .i64 (W : Int), .int .i64 (H : Int), .slice (some ⟨g, 0, none⟩) n c])
  have hhi : (bot + 1) * W ≤ n := by
    have h1 : (bot + 1) * W ≤ H * W := Nat.mul_le_mul_right W hy
    rw [Nat.mul_comm H W] at h1; omega
  have hlt : top * W < (bot + 1) * W := Nat.mul_lt_mul_of_pos_right (by omega) (by omega)
  have hmm : (bot + 1 - top) * W = (bot + 1) * W - top * W := Nat.sub_mul _ _ _
  obtain ⟨cv, hcv⟩ : ∃ cv, cv = clampV d (-(H : Int)) (H : Int) := ⟨_, rfl⟩
  obtain ⟨cv1, cv2⟩ := clampV_bd d (-(H : Int)) (H : Int) (by omega)
  rw [← hcv] at cv1 cv2
  obtain ⟨dd, hdd⟩ : ∃ dd, dd = -(W : Int) * cv := ⟨_, rfl⟩
  obtain ⟨dd1, dd2⟩ := mul_bd2 (a := (W : Int)) (b := cv) (by omega) (by omega) (by omega) (by omega)
  rw [← hdd] at dd1 dd2
  have hrr : -((W : Int) * clampV d (-(H : Int)) (H : Int)) = dd := by rw [← hcv, hdd, Int.neg_mul]
  have e1 : IntKind.i64.wrap (-(W : Int) * cv) = dd := by rw [← hdd]; exact IntWalk.i64_in _ (by omega)
  have HCV := Lib.hid hcv.symm
  rw [hrr]
  rw [hmm]
  obtain ⟨lo, hlo⟩ : ∃ lo, lo = top * W := ⟨_, rfl⟩
  obtain ⟨hi, hhi'⟩ : ∃ hi, hi = (bot + 1) * W := ⟨_, rfl⟩
  have t1 : (top : Int) * (W : Int) = (lo : Int) := by rw [hlo, Int.natCast_mul]
  have t2 : ((bot : Int) + 1) * (W : Int) = (hi : Int) := by rw [hhi', Int.natCast_mul]; rfl
  have HT := Lib.hid (And.intro t1 t2)
  rw [← hlo] at hlt ⊢
  rw [← hhi'] at hlt hhi ⊢
  clear hcv hdd hrr hmm hlo hhi' t1 t2 cv1 cv2
  have hcap := ho.cap
  have hg := ho.blk g rfl
  have hal := (Below.refl w.heap.size w).alloc (Nat.le_refl _) (.cells #[.int .i64 (W : Int), .int .i64 (H : Int), .slice (some ⟨g, 0, none⟩) n c] 32)
  have HO3 := Lib.hid (ho.below (Nat.le_refl _) hal)
  have HB3a := Lib.hid hal
  have HRO := Lib.hid (fun V => rowsOf_any (W : Int) (H : Int) (top : Int) ((bot : Int) + 1) g 0 n c lo hi V HT.out.1 HT.out.2 hlt hhi hcap.1 (by omega) hcap.2)
  rw [Nat.zero_add] at HRO
  have HS := Lib.hid (fun (V : World) (h : OwnC V base (some ⟨g, 0, none⟩) n c cs) => slide_any lo (hi - lo) (c - lo) dd V h (by omega) (by omega) (by omega) (by omega))
  have HCL := Lib.hid (fun V => HCV.out ▸ clamp_anyG d (-(H : Int)) (H : Int) (by omega) V)
  clear hal ho hWH
  obtain ⟨v3a, hv3a⟩ : ∃ v, v = w.alloc (.cells #[.int .i64 (W : Int), .int .i64 (H : Int), .slice (some ⟨g, 0, none⟩) n c] 32) := ⟨_, rfl⟩
  have HV3 := Lib.hid hv3a.symm
  rw [← hv3a] at X0 HO3 HB3a
  have hz5 : w.heap.size < v3a.heap.size := X0.out.lt
  clear hv3a
  have e2 : IntKind.i64.wrap ((bot : Int) + 1) = (bot : Int) + 1 := IntWalk.i64_in _ (by omega)
  have e3 : IntKind.i64.wrap (-(W : Int)) = -(W : Int) := IntWalk.i64_in _ (by omega)
  have e4 : IntKind.i64.wrap (-(H : Int)) = -(H : Int) := IntWalk.i64_in _ (by omega)
  go_enter Try.func128, Try.ntmps128
  go_upto_region 1 with fail
  rw [HV3.out]
  clear HV3
  have k0 : v3a.cell? ⟨w.heap.size, 0, none⟩ = some (.int .i64 (W : Int)) := X0.out.cell 0
  have k1 : v3a.cell? ⟨w.heap.size, 1, none⟩ = some (.int .i64 (H : Int)) := X0.out.cell 1
  have k2 : v3a.cell? ⟨w.heap.size, 2, none⟩ = some (.slice (some ⟨g, 0, none⟩) n c) := X0.out.cell 2
  go_region_held3 (fun w' => w'.cell? ⟨w.heap.size, 0, none⟩ = some (.int .i64 (W : Int)) ∧ w'.cell? ⟨w.heap.size, 1, none⟩ = some (.int .i64 (H : Int)) ∧ w'.cell? ⟨w.heap.size, 2, none⟩ = some (.slice (some ⟨g, 0, none⟩) n c)) (go_keep)
    (first
      | (go_at_call 95; (with_reducible refine (HRO.out _).mono ?_); rintro e v4 ⟨rfl, hb4'⟩; have hb4 : Below v3a.heap.size v3a v4 := undrew hb4'; have j0 := (hb4.cell (p := ⟨w.heap.size, 0, none⟩) hz5).trans k0; have j1 := (hb4.cell (p := ⟨w.heap.size, 1, none⟩) hz5).trans k1; have j2 := (hb4.cell (p := ⟨w.heap.size, 2, none⟩) hz5).trans k2; have HO4 := Lib.hid (HO3.out.below (Nat.le_refl _) hb4); have X0d := Lib.hid (X0.out.below hb4 hz5); have HB4 := Lib.hid (HB3a.out.trans (hb4.mono (by omega))); clear hb4 hb4')
      | (go_at_call 94; (with_reducible refine (HCL.out _).mono ?_); rintro e v9 ⟨rfl, rfl⟩)
      | (go_at_call 130; (with_reducible refine (HS.out _ HO4.out).mono ?_); rintro e v5 ⟨rfl, ho5, on5⟩; have x0 := X0d.out.only on5 (by omega); have i0 : v5.cell? ⟨w.heap.size, 0, none⟩ = some (.int .i64 (W : Int)) := x0.cell 0; have i1 : v5.cell? ⟨w.heap.size, 1, none⟩ = some (.int .i64 (H : Int)) := x0.cell 1; have i2 : v5.cell? ⟨w.heap.size, 2, none⟩ = some (.slice (some ⟨g, 0, none⟩) n c) := x0.cell 2; have HF := Lib.hid (And.intro ho5 ((Only.below HB4.out (Nat.le_refl _)).trans on5)); clear x0 on5 ho5))
  all_goals
    go_wp2_with fail
    go_end0
    exact ⟨rfl, HF.out⟩
end Go.Proofs.Ythlpchojlddnbaa.Gr

