/- Texts that lay in modules of their own: KiE, GrRollB, KiF, KiD, AppOne, ScTbA. -/
import Derived.Test.YtgnpgkkjcloghaaGreatGrSlide
import Derived.Test.YtgnpgkkjcloghaaGreatKm7
import Derived.Deep.DeepCutAuto
import Derived.Test.YtgnpgkkjcloghaaGreatKm5
set_option maxRecDepth 100000
set_option maxHeartbeats 3200000
set_option linter.unusedVariables false
namespace Go.Proofs.YtgnpgkkjcloghaaGreat.Gr
open Lib
open Go.RowKit Bytes Rows_ RowK
theorem rowsOf_any (gw gh top end_ : Int) (b o n c lo hi : Nat) (w : World) (h1 : top * gw = (lo : Int)) (h2 : end_ * gw = (hi : Int)) (hlt : lo < hi) (hhi : hi ≤ n) (hnc : n ≤ c) (hn : n ≤ 1099511627776) (hc : c ≤ 9223372036854775807) :
    Calls Tryz.prog 164 #[.agg #[.int .i64 gw, .int .i64 gh, .slice (some ⟨b, o, none⟩) n c], .int .i64 top, .int .i64 end_] w fun e w' => e = .returned (.slice (some ⟨b, o + lo * 6, none⟩) (hi - lo) (c - lo)) ∧ Below w.heap.size w w' := by
  have hb0 := hid ((Below.refl w.heap.size w).alloc (Nat.le_refl _) (.cells #[.int .i64 gw, .int .i64 gh, .slice (some ⟨b, o, none⟩) n c] 34))
  have e1 : IntKind.i64.wrap (top * gw) = (lo : Int) := by rw [h1]; exact IntWalk.i64_in _ (by omega)
  have e2 : IntKind.i64.wrap (end_ * gw) = (hi : Int) := by rw [h2]; exact IntWalk.i64_in _ (by omega)
  have b1 : lo ≠ c := by omega
  have b2 : hi ≤ c := by omega
  have b3 : lo ≤ hi := by omega
  clear h1 h2
  go_enter Tryz.func164, Tryz.ntmps164
  go_wp2_with fail
  go_ret
  exact ⟨rfl, hb0.out⟩
theorem rowOf_any (W : Nat) (gh : Int) (b o n c y : Nat) (w : World) (h0 : 1 ≤ W) (hy : y * W + W ≤ n) (hyb : y ≤ 1000000) (hnc : n ≤ c) (hn : n ≤ 1099511627776) (hc : c ≤ 9223372036854775807) :
    Calls Tryz.prog 148 #[.agg #[.int .i64 (W : Int), .int .i64 gh, .slice (some ⟨b, o, none⟩) n c], .int .i64 (y : Int)] w fun e w' => e = .returned (.slice (some ⟨b, o + y * W * 6, none⟩) W (c - y * W)) ∧ Below w.heap.size w w' := by
  have hb0 := hid ((Below.refl w.heap.size w).alloc (Nat.le_refl _) (.cells #[.int .i64 (W : Int), .int .i64 gh, .slice (some ⟨b, o, none⟩) n c] 34))
  have HRO := hid (fun V => rowsOf_any (W : Int) gh (y : Int) ((y : Int) + 1) b o n c (y * W) (y * W + W) V (by rw [Int.natCast_mul]) (by rw [Int.add_mul, Int.one_mul, Int.natCast_add, Int.natCast_mul]) (by omega) hy hnc hn hc)
  rw [show y * W + W - y * W = W by omega] at HRO
  go_enter Tryz.func148, Tryz.ntmps148
  go_wp2_with fail
  refine (HRO.out _).mono ?_
  rintro e v1 ⟨rfl, hb1⟩
  have HB1 := hid (hb0.out.trans (hb1.mono (by simp)))
  clear hb1
  go_wp2_with fail
  go_ret
  exact ⟨rfl, HB1.out⟩
theorem OwnC.cap {w : World} {base : Nat} {A : Option Addr} {n c : Nat} {cs : List CellD} (h : OwnC w base A n c cs) : n ≤ c ∧ c ≤ 9223372036854775807 := by
  rcases h.2 with ⟨hv, h0⟩ | ⟨g, cap, cur, hv, _, _, hnc, hm, _⟩
  · injection hv with e1 e2 e3; omega
  · injection hv with e1 e2 e3
    unfold maxLen at hm; omega
theorem OwnC.addr {w : World} {base : Nat} {A : Option Addr} {n c : Nat} {cs : List CellD} (h : OwnC w base A n c cs) (hn : 0 < n) : ∃ g, A = some ⟨g, 0, none⟩ := own_addr h hn
abbrev GridT := Int × Int × List CellD
def zeroT : GridT := (0, 0, [])
def AnsT (w : World) (t : GridT) (e : Ending) (w' : World) : Prop :=
  ∃ A c, e = .returned (.agg #[.int .i64 t.1, .int .i64 t.2.1, .slice A t.2.2.length c]) ∧ OwnC w' w.heap.size A t.2.2.length c t.2.2 ∧ Below w.heap.size w w'
theorem ansZero {w w' : World} (hb : Below w.heap.size w w') : AnsT w zeroT (.returned (.agg #[.int .i64 0, .int .i64 0, .slice none 0 0])) w' := ⟨none, 0, rfl, ownC_nil _ _, hb⟩
theorem ansT {w w' : World} {gw gh : Int} {A : Option Addr} {n c : Nat} {cs : List CellD} (hl : cs.length = n) (ho : OwnC w' w.heap.size A n c cs) (hb : Below w.heap.size w w') : AnsT w (gw, gh, cs) (.returned (.agg #[.int .i64 gw, .int .i64 gh, .slice A n c])) w' := by
  subst hl; exact ⟨A, c, rfl, ho, hb⟩
def inR (gh top bot : Int) : Bool := decide (0 ≤ top ∧ top ≤ bot ∧ bot < gh)
def rollT (gw gh : Int) (cs : List CellD) (top bot d : Int) : GridT :=
  if okG gw gh cs && inR gh top bot then (gw, gh, over cs (top * gw).toNat (shiftL cs (top * gw).toNat ((bot + 1 - top) * gw).toNat (-(gw * clampV d (-gh) gh)))) else zeroT
theorem rollT_no {gw gh top bot d : Int} {cs : List CellD} (h : (okG gw gh cs && inR gh top bot) = false) : rollT gw gh cs top bot d = zeroT := by unfold rollT; rw [h]; rfl
theorem rollT_yes {W H top bot : Nat} {d : Int} {cs : List CellD} (h : (okG (W : Int) (H : Int) cs && inR (H : Int) (top : Int) (bot : Int)) = true) (hx : top ≤ bot) : rollT (W : Int) (H : Int) cs (top : Int) (bot : Int) d = ((W : Int), (H : Int), over cs (top * W) (shiftL cs (top * W) ((bot + 1 - top) * W) (-((W : Int) * clampV d (-(H : Int)) (H : Int))))) := by
  unfold rollT; rw [h, ← Int.natCast_mul, show (bot : Int) + 1 - (top : Int) = ((bot + 1 - top : Nat) : Int) by omega, ← Int.natCast_mul]; rfl
theorem clampV_bd (x lo hi : Int) (h : lo ≤ hi) : lo ≤ clampV x lo hi ∧ clampV x lo hi ≤ hi := by unfold clampV; split <;> (try split) <;> omega
theorem mul_bd2 {a b : Int} (h1 : 0 ≤ a) (h2 : a ≤ 120) (h3 : -120 ≤ b) (h4 : b ≤ 120) : -14400 ≤ -a * b ∧ -a * b ≤ 14400 := by
  have p : a * b ≤ a * 120 := Int.mul_le_mul_of_nonneg_left h4 h1
  have q : a * (-120) ≤ a * b := Int.mul_le_mul_of_nonneg_left h3 h1
  rw [Int.neg_mul]; omega
theorem rollRows_any (W H top bot g n c base : Nat) (d : Int) (cs : List CellD) (w : World) (ho : OwnC w base (some ⟨g, 0, none⟩) n c cs) (hn : n ≤ 1048576) (htb : top ≤ bot) (hy : bot < H) (hW1 : 1 ≤ W) (hW : W ≤ 120) (hH : H ≤ 120) (hWH : n = W * H) :
    Calls Tryz.prog 163 #[.agg #[.int .i64 (W : Int), .int .i64 (H : Int), .slice (some ⟨g, 0, none⟩) n c], .int .i64 (top : Int), .int .i64 (bot : Int), .int .i64 d] w fun e w' => e = .returned (.tuple #[]) ∧ OwnC w' base (some ⟨g, 0, none⟩) n c (over cs (top * W) (shiftL cs (top * W) ((bot + 1 - top) * W) (-((W : Int) * clampV d (-(H : Int)) (H : Int))))) ∧ Only (fun i => i = g) w w' := by
  have X0 := hid (BoxG.new w #[.int .i64 (W : Int), .int .i64 (H : Int), .slice (some ⟨g, 0, none⟩) n c])
  have hhi : (bot + 1) * W ≤ n := by
    have h1 : (bot + 1) * W ≤ H * W := Nat.mul_le_mul_right W hy
    rw [Nat.mul_comm H W] at h1; omega
  have hlt : top * W < (bot + 1) * W := Nat.mul_lt_mul_of_pos_right (by omega) (by omega)
  have hmm : (bot + 1 - top) * W = (bot + 1) * W - top * W := Nat.sub_mul _ _ _
  obtain ⟨cv, hcv⟩ : ∃ cv, cv = clampV d (-(H : Int)) (H : Int) := ⟨_, rfl⟩
  obtain ⟨cv1, cv2⟩ := clampV_bd d (-(H : Int)) (H : Int) (by omega)
  rw [← hcv] at cv1 cv2
  obtain ⟨dd, hdd⟩ : ∃ dd, dd = -(W : Int) * cv := ⟨_, rfl⟩
  obtain ⟨dd1, dd2⟩ := mul_bd2 (a := (W : Int)) (b := cv) (by omega) (by omega) (by omega) (by omega)
  rw [← hdd] at dd1 dd2
  have hrr : -((W : Int) * clampV d (-(H : Int)) (H : Int)) = dd := by rw [← hcv, hdd, Int.neg_mul]
  have e1 : IntKind.i64.wrap (-(W : Int) * cv) = dd := by rw [← hdd]; exact IntWalk.i64_in _ (by omega)
  have HCV := hid hcv.symm
  rw [hrr]
  rw [hmm]
  obtain ⟨lo, hlo⟩ : ∃ lo, lo = top * W := ⟨_, rfl⟩
  obtain ⟨hi, hhi'⟩ : ∃ hi, hi = (bot + 1) * W := ⟨_, rfl⟩
  have t1 : (top : Int) * (W : Int) = (lo : Int) := by rw [hlo, Int.natCast_mul]
  have t2 : ((bot : Int) + 1) * (W : Int) = (hi : Int) := by rw [hhi', Int.natCast_mul]; rfl
  have HT := hid (And.intro t1 t2)
  rw [← hlo] at hlt ⊢
  rw [← hhi'] at hlt hhi ⊢
  clear hcv hdd hrr hmm hlo hhi' t1 t2 cv1 cv2
  have hcap := ho.cap
  have hg := ho.blk g rfl
  have hal := (Below.refl w.heap.size w).alloc (Nat.le_refl _) (.cells #[.int .i64 (W : Int), .int .i64 (H : Int), .slice (some ⟨g, 0, none⟩) n c] 34)
  have HO3 := hid (ho.below (Nat.le_refl _) hal)
  have HB3a := hid hal
  have HRO := hid (fun V => rowsOf_any (W : Int) (H : Int) (top : Int) ((bot : Int) + 1) g 0 n c lo hi V HT.out.1 HT.out.2 hlt hhi hcap.1 (by omega) hcap.2)
  rw [Nat.zero_add] at HRO
  have HS := hid (fun (V : World) (h : OwnC V base (some ⟨g, 0, none⟩) n c cs) => slide_any lo (hi - lo) (c - lo) dd V h (by omega) (by omega) (by omega) (by omega))
  have HCL := hid (fun V => HCV.out ▸ clamp_anyG d (-(H : Int)) (H : Int) (by omega) V)
  clear hal ho hWH
  obtain ⟨v3a, hv3a⟩ : ∃ v, v = w.alloc (.cells #[.int .i64 (W : Int), .int .i64 (H : Int), .slice (some ⟨g, 0, none⟩) n c] 34) := ⟨_, rfl⟩
  have HV3 := hid hv3a.symm
  rw [← hv3a] at X0 HO3 HB3a
  have hz5 : w.heap.size < v3a.heap.size := X0.out.lt
  clear hv3a
  have e2 : IntKind.i64.wrap ((bot : Int) + 1) = (bot : Int) + 1 := IntWalk.i64_in _ (by omega)
  have e3 : IntKind.i64.wrap (-(W : Int)) = -(W : Int) := IntWalk.i64_in _ (by omega)
  have e4 : IntKind.i64.wrap (-(H : Int)) = -(H : Int) := IntWalk.i64_in _ (by omega)
  go_enter Tryz.func163, Tryz.ntmps163
  go_upto_region 1 with fail
  rw [HV3.out]
  clear HV3
  have k0 : v3a.cell? ⟨w.heap.size, 0, none⟩ = some (.int .i64 (W : Int)) := X0.out.cell 0
  have k1 : v3a.cell? ⟨w.heap.size, 1, none⟩ = some (.int .i64 (H : Int)) := X0.out.cell 1
  have k2 : v3a.cell? ⟨w.heap.size, 2, none⟩ = some (.slice (some ⟨g, 0, none⟩) n c) := X0.out.cell 2
  go_region_held3 (fun w' => w'.cell? ⟨w.heap.size, 0, none⟩ = some (.int .i64 (W : Int)) ∧ w'.cell? ⟨w.heap.size, 1, none⟩ = some (.int .i64 (H : Int)) ∧ w'.cell? ⟨w.heap.size, 2, none⟩ = some (.slice (some ⟨g, 0, none⟩) n c)) (go_keep)
    (first
      | (go_at_call 164; (with_reducible refine (HRO.out _).mono ?_); rintro e v4 ⟨rfl, hb4'⟩; have hb4 : Below v3a.heap.size v3a v4 := undrew hb4'; have j0 := (hb4.cell (p := ⟨w.heap.size, 0, none⟩) hz5).trans k0; have j1 := (hb4.cell (p := ⟨w.heap.size, 1, none⟩) hz5).trans k1; have j2 := (hb4.cell (p := ⟨w.heap.size, 2, none⟩) hz5).trans k2; have HO4 := hid (HO3.out.below (Nat.le_refl _) hb4); have X0d := hid (X0.out.below hb4 hz5); have HB4 := hid (HB3a.out.trans (hb4.mono (by omega))); clear hb4 hb4')
      | (go_at_call 111; (with_reducible refine (HCL.out _).mono ?_); rintro e v9 ⟨rfl, rfl⟩)
      | (go_at_call 130; (with_reducible refine (HS.out _ HO4.out).mono ?_); rintro e v5 ⟨rfl, ho5, on5⟩; have x0 := X0d.out.only on5 (by omega); have i0 : v5.cell? ⟨w.heap.size, 0, none⟩ = some (.int .i64 (W : Int)) := x0.cell 0; have i1 : v5.cell? ⟨w.heap.size, 1, none⟩ = some (.int .i64 (H : Int)) := x0.cell 1; have i2 : v5.cell? ⟨w.heap.size, 2, none⟩ = some (.slice (some ⟨g, 0, none⟩) n c) := x0.cell 2; have HF := hid (And.intro ho5 ((Only.below HB4.out (Nat.le_refl _)).trans on5)); clear x0 on5 ho5))
  all_goals
    go_wp2_with fail
    go_end0
    exact ⟨rfl, HF.out⟩
theorem over_next {cs l : List CellD} {lo i : Nat} {z : CellD} (h : lo + l.length ≤ cs.length) (hz : l[i]? = some z) : (over cs lo (l.take i)).set (lo + i) z = over cs lo (l.take (i + 1)) := by
  have hi : i < l.length := (List.getElem?_eq_some_iff.1 hz).1
  have h1 : (l.take i).length = i := by rw [List.length_take]; omega
  have h2 : (l.take (i + 1)).length = i + 1 := by rw [List.length_take]; omega
  apply List.ext_getElem?
  intro j
  rw [over_get (by omega), List.getElem?_set]
  rw [over_len (by omega), over_get (by omega), h1, h2]
  by_cases a : lo + i = j
  · subst a
    rw [if_pos rfl, if_pos (by omega), if_neg (by omega), if_pos (by omega), show lo + i - lo = i by omega, List.getElem?_take_of_lt (by omega), hz]
  · rw [if_neg a]
    by_cases b : j < lo
    · rw [if_pos b, if_pos b]
    · rw [if_neg b, if_neg b]
      by_cases c : j < lo + i
      · rw [if_pos c, if_pos (by omega), List.getElem?_take_of_lt (by omega), List.getElem?_take_of_lt (by omega)]
      · rw [if_neg c, if_neg (by omega)]
theorem ownC_drew {w : World} {base : Nat} {A : Option Addr} {n c : Nat} {cs : List CellD} (h : OwnC w base A n c cs) : OwnC w.drew base A n c cs := h
theorem BoxG.only6 {w : World} {b g : Nat} {l : Array Value} (h : BoxG w b l) (hne : b ≠ g) (i0 i1 i2 i3 i4 i5 : Nat) (x0 x1 x2 x3 x4 x5 : Value) : BoxG ((((((w.setCell ⟨g, i0, none⟩ x0).setCell ⟨g, i1, none⟩ x1).setCell ⟨g, i2, none⟩ x2).setCell ⟨g, i3, none⟩ x3).setCell ⟨g, i4, none⟩ x4).setCell ⟨g, i5, none⟩ x5) b l :=
  (((((h.other hne).other hne).other hne).other hne).other hne).other hne
theorem below6 {w0 w : World} {B g : Nat} (h : Below B w0 w) (hg : B ≤ g) (i0 i1 i2 i3 i4 i5 : Nat) (x0 x1 x2 x3 x4 x5 : Value) : Below B w0 ((((((w.setCell ⟨g, i0, none⟩ x0).setCell ⟨g, i1, none⟩ x1).setCell ⟨g, i2, none⟩ x2).setCell ⟨g, i3, none⟩ x3).setCell ⟨g, i4, none⟩ x4).setCell ⟨g, i5, none⟩ x5) :=
  (((((h.setCell (p := ⟨g, i0, none⟩) hg _).setCell (p := ⟨g, i1, none⟩) hg _).setCell (p := ⟨g, i2, none⟩) hg _).setCell (p := ⟨g, i3, none⟩) hg _).setCell (p := ⟨g, i4, none⟩) hg _).setCell (p := ⟨g, i5, none⟩) hg _
theorem only6c {S : Nat → Prop} (w : World) (g : Nat) (h : S g) (i0 i1 i2 i3 i4 i5 : Nat) (x0 x1 x2 x3 x4 x5 : Value) :
    Only S w ((((((w.setCell ⟨g, i0, none⟩ x0).setCell ⟨g, i1, none⟩ x1).setCell ⟨g, i2, none⟩ x2).setCell ⟨g, i3, none⟩ x3).setCell ⟨g, i4, none⟩ x4).setCell ⟨g, i5, none⟩ x5) :=
  (((((Only.cell_ _ g _ _ h).trans (Only.cell_ _ g _ _ h)).trans (Only.cell_ _ g _ _ h)).trans (Only.cell_ _ g _ _ h)).trans (Only.cell_ _ g _ _ h)).trans (Only.cell_ _ g _ _ h)
theorem only6b (w : World) (g : Nat) (i0 i1 i2 i3 i4 i5 : Nat) (x0 x1 x2 x3 x4 x5 : Value) :
    Only (fun i => i = g) w ((((((w.setCell ⟨g, i0, none⟩ x0).setCell ⟨g, i1, none⟩ x1).setCell ⟨g, i2, none⟩ x2).setCell ⟨g, i3, none⟩ x3).setCell ⟨g, i4, none⟩ x4).setCell ⟨g, i5, none⟩ x5) := only6c (S := fun i => i = g) w g rfl _ _ _ _ _ _ _ _ _ _ _ _
def inF (W : Nat) (x y w h : Int) (i : Nat) : Bool := decide (x ≤ ((i % W : Nat) : Int) ∧ ((i % W : Nat) : Int) < x + w ∧ y ≤ ((i / W : Nat) : Int) ∧ ((i / W : Nat) : Int) < y + h)
def mixL (cs : List CellD) (W : Nat) (x y w h : Int) (z : CellD) (r : Nat) : List CellD :=
  (List.range cs.length).map fun i => if decide (i / W < r) && inF W x y w h i then z else cs.getD i blankC
theorem mixL_len (cs : List CellD) (W : Nat) (x y w h : Int) (z : CellD) (r : Nat) : (mixL cs W x y w h z r).length = cs.length := by simp [mixL]
theorem mixL_get {cs : List CellD} {W : Nat} {x y w h : Int} {z : CellD} {r i : Nat} (hi : i < cs.length) : (mixL cs W x y w h z r)[i]? = some (if decide (i / W < r) && inF W x y w h i then z else cs[i]) := by
  simp [mixL, hi, List.getD]
theorem mixL_ext {cs ds : List CellD} {W : Nat} {x y w h : Int} {z : CellD} {r : Nat} (hl : ds.length = cs.length) (hg : ∀ i (hi : i < cs.length), ds[i]? = some (if decide (i / W < r) && inF W x y w h i then z else cs[i])) : ds = mixL cs W x y w h z r := by
  apply List.ext_getElem?
  intro i
  by_cases hi : i < cs.length
  · rw [hg i hi, mixL_get hi]
  · rw [List.getElem?_eq_none (by omega), List.getElem?_eq_none (by rw [mixL_len]; omega)]
theorem iteb {a b : Bool} (h : a = b) (z u : CellD) : (if a = true then z else u) = if b = true then z else u := by rw [h]
def smallB (n : Int) : Bool := decide (-100000 ≤ n ∧ n ≤ 100000)
def goodF (gw gh : Int) (cs : List CellD) (x y w h : Int) (z : CellD) : Bool := okG gw gh cs && (okC z && (smallB x && (smallB y && (smallB w && smallB h))))
def fillT (gw gh : Int) (cs : List CellD) (x y w h : Int) (z : CellD) : GridT := if goodF gw gh cs x y w h z then (gw, gh, mixL cs gw.toNat x y w h z gh.toNat) else zeroT
end Go.Proofs.YtgnpgkkjcloghaaGreat.Gr
namespace Go.Proofs.YtgnpgkkjcloghaaGreat.Sc
open Lib
open Go.RowKit Bytes Rows_ RowK Gr DOk Opq Attr
structure Fit (d : ScrD) (W H X Y T Bt L : Nat) : Prop where
  w : d.w = W
  h : d.h = H
  mw : d.mw = W
  mh : d.mh = H
  aw : d.aw = W
  ah : d.ah = H
  w1 : 1 ≤ W
  w2 : W ≤ 120
  h1 : 1 ≤ H
  h2 : H ≤ 120
  wh : W * H ≤ 4000
  ml : d.M.length = W * H
  al : d.A.length = W * H
  x : d.x = X
  x2 : X < W
  y : d.y = Y
  y2 : Y < H
  top : d.top = T
  bot : d.bot = Bt
  tb : T ≤ Bt
  bh : Bt < H
  lim : d.lim = L
  l2 : L ≤ 100
  rl : d.rows.length ≤ L
theorem ok_fit {d : ScrD} (h : okD d = true) : ∃ W H X Y T Bt L : Nat, Fit d W H X Y T Bt L := by
  obtain ⟨⟨g1, g2, e1, e2, e3, e4⟩, ⟨c1, c2, c3, c4, c5, c6⟩, ⟨r1, r2, r3, r4, r5, r6, r7⟩, _, _⟩ := okD_iff.1 h
  unfold okG at g1 g2
  rw [Bool.and_eq_true, Bool.and_eq_true] at g1 g2
  obtain ⟨s1, s2, s3⟩ := g1
  obtain ⟨_, t2, t3⟩ := g2
  have s1' : 1 ≤ d.mw ∧ d.mw ≤ 120 ∧ 1 ≤ d.mh ∧ d.mh ≤ 120 ∧ d.mw * d.mh ≤ 4000 := of_decide_eq_true s1
  have s2' := of_decide_eq_true s2
  have t2' := of_decide_eq_true t2
  obtain ⟨W, hW⟩ : ∃ W : Nat, d.w = W := ⟨d.w.toNat, by omega⟩
  obtain ⟨H, hH⟩ : ∃ H : Nat, d.h = H := ⟨d.h.toNat, by omega⟩
  rw [e1, e2, hW, hH] at s1' s2'
  rw [e3, e4, hW, hH] at t2'
  rw [← Int.natCast_mul] at s2' t2'
  have p5 : W * H ≤ 4000 := by have := s1'.2.2.2.2; rw [← Int.natCast_mul] at this; omega
  exact ⟨W, H, d.x.toNat, d.y.toNat, d.top.toNat, d.bot.toNat, d.lim.toNat,
    hW, hH, by rw [e1, hW], by rw [e2, hH], by rw [e3, hW], by rw [e4, hH], by omega, by omega, by omega, by omega, p5, by omega, by omega, by omega, by omega, by omega, by omega, by omega, by omega, by omega, by omega, by omega, by omega, by omega⟩
theorem ok_g {d : ScrD} (h : okD d = true) : okG d.mw d.mh d.M = true ∧ okG d.aw d.ah d.A = true := ⟨(okD_iff.1 h).1.1, (okD_iff.1 h).1.2.1⟩
def shD (d : ScrD) : List CellD := if d.onAlt then d.A else d.M
def putD (d : ScrD) (cs : List CellD) : ScrD := if d.onAlt then { d with A := cs } else { d with M := cs }
def clampD (x hi : Int) : Int := clampV x 0 hi
def goD (d : ScrD) (x y : Int) : ScrD := { d with x := clampD x (d.w - 1), y := clampD y (d.h - 1), wrap := false }
def rollC (d : ScrD) (top bot n : Int) : List CellD := over (shD d) (top * d.w).toNat (shiftL (shD d) (top * d.w).toNat ((bot + 1 - top) * d.w).toNat (-(d.w * clampV n (-d.h) d.h)))
def keepL (lim : Nat) (rows : List (List CellD)) (r : List CellD) : List (List CellD) := (rows ++ [r]).drop (rows.length + 1 - lim)
def keepsB (d : ScrD) : Bool := !d.onAlt && decide (d.top = 0)
noncomputable def okF (f : ScrD → ScrD) (d : ScrD) : ScrD := if okD d = true then f d else ⟨0, 0, 0, 0, [], 0, 0, [], false, 0, 0, false, 0, 0, false, false, false, 0, 0, false, false, 0, 0, 0, 0, false, false, false, [], 0, []⟩
theorem okF_yes {f : ScrD → ScrD} {d : ScrD} (h : okD d = true) : okF f d = f d := by unfold okF; rw [if_pos h]
theorem okF_no {f : ScrD → ScrD} {d : ScrD} (h : okD d = false) : okF f d = ⟨0, 0, 0, 0, [], 0, 0, [], false, 0, 0, false, 0, 0, false, false, false, 0, 0, false, false, 0, 0, 0, 0, false, false, false, [], 0, []⟩ := by unfold okF; rw [if_neg (by rw [h]; decide)]
theorem okT_len : ∀ (last w : Int) (l : List Int), okT last w l = true → last ≤ w → (l.length : Int) ≤ w - last
  | last, w, [], _, h => by simp; omega
  | last, w, t :: l, h, hw => by
    rw [okT, Bool.and_eq_true] at h
    have h1 := of_decide_eq_true h.1
    have h2 := okT_len t w l h.2 (by omega)
    simp only [List.length_cons]; omega
theorem sum_le (c : Nat) : ∀ (l : List Nat), (∀ x ∈ l, x ≤ c) → l.sum ≤ l.length * c
  | [], _ => by simp
  | x :: l, h => by
    have h1 := h x (by simp)
    have h2 := sum_le c l (fun y hy => h y (by simp [hy]))
    rw [List.sum_cons, List.length_cons, Nat.add_mul]; omega
theorem okRow_le120 {r : List CellD} (h : okRow r = true) : r.length ≤ 120 := by
  unfold okRow at h; rw [Bool.and_eq_true] at h; exact (of_decide_eq_true h.1).2
theorem ok_tabs {d : ScrD} (h : okD d = true) : d.tabs.length ≤ 121 := by
  obtain ⟨W, H, X, Y, T, Bt, L, f⟩ := ok_fit h
  have h0 := f.w
  have h2 := f.w2
  have h1 := okT_len _ _ _ (okD_iff.1 h).2.2.2.1 (by omega)
  omega
theorem ok_rows {d : ScrD} (h : okD d = true) : d.rows.length ≤ 100 ∧ (∀ r ∈ d.rows, r.length ≤ 120) := by
  obtain ⟨W, H, X, Y, T, Bt, L, f⟩ := ok_fit h
  refine ⟨by have := f.rl; have := f.l2; omega, fun r hr => ?_⟩
  exact okRow_le120 (List.all_eq_true.1 (okD_iff.1 h).2.2.2.2 r hr)
theorem sz_rows {rows : List (List CellD)} {n : Nat} (h1 : rows.length ≤ n) (h2 : ∀ r ∈ rows, r.length ≤ 120) : rows.length + (rows.map List.length).sum ≤ n * 121 := by
  have h3 := sum_le 120 (rows.map List.length) (fun x hx => by obtain ⟨r, hr, rfl⟩ := List.mem_map.1 hx; exact h2 r hr)
  rw [List.length_map] at h3
  have h4 : rows.length * 120 ≤ n * 120 := Nat.mul_le_mul_right _ h1
  omega
theorem ok_size {d : ScrD} (h : okD d = true) : szD d ≤ 30000 := by
  obtain ⟨W, H, X, Y, T, Bt, L, f⟩ := ok_fit h
  have h1 := ok_tabs h
  obtain ⟨h2, h3⟩ := ok_rows h
  have h4 := sz_rows h2 h3
  have := f.ml; have := f.al; have := f.wh
  unfold szD; omega
theorem sz_okF {F : ScrD → ScrD} {d : ScrD} (h : okD d = true → szD (F d) ≤ 100000) : szD (okF F d) ≤ 1048576 := by
  cases ho : okD d
  · rw [okF_no ho]; simp [szD]
  · rw [okF_yes ho]; have := h ho; omega
end Go.Proofs.YtgnpgkkjcloghaaGreat.Sc
namespace Go.Proofs.YtgnpgkkjcloghaaGreat.AppOne
open Lib
open Go.RowKit Bytes DOk RowK
theorem append_blkG {w : World} {base n c n1 c1 : Nat} {A : Option Addr} {ad : Addr} {sl E ty : TypeId} {i0 : TypeInfo} {z : Value} {bytes : Nat} {xs : List Value} {news : List Value}
    (hu : Tryz.prog.underlying sl = some (.slice E)) (hi : Tryz.prog.info? E = some i0) (hz0 : i0.zero = some z) (hz1 : i0.size = 1) (hz2 : i0.bytes = bytes) (hzs : z.cells.size = 1) (hby : bytes ≤ 48)
    (hown : w.ownsRow base E 1 (.slice A n c) n xs) (hl : news.length = n1) (hnews : ∀ j u, news[j]? = some u → w.cell? (ad.add j) = some u) (h1 : ∀ u ∈ news, u.oneCell' = true) (hn : n ≤ 1099511627776) (hn1 : n1 ≤ 1099511627776)
    {v' : Value} {w' : World} (hr : (Builtin.append_ #[sl, sl] ty #[.slice A n c, .slice (some ad) n1 c1]).run Tryz.prog w = .ok v' w') :
    ∀ g, v'.ownBlock = some g → (Value.slice A n c).ownBlock = some g ∨ w.heap.size ≤ g := by
  intro g hg
  have hmul : (n + n1) * bytes ≤ 140737488355328 := Nat.le_trans (Nat.mul_le_mul (Nat.add_le_add hn hn1) hby) (by decide)
  have hl' : news.length = n1 * i0.size := by rw [hz1]; omega
  rcases hown.2 with ⟨hv, h0⟩ | ⟨g0, cap, cur, hv, hbg, hgg, hnc, hcm, hcs, htake⟩
  · injection hv with e1 e2 e3
    subst e1 e2 e3
    by_cases hm : n1 = 0
    · subst hm
      obtain ⟨v2, w2, hr2, ho2, hg2, hiff⟩ := run_append_own (P := Tryz.prog) w 0 sl ty E i0 z 1 bytes hu hi hz0 hz1 hz2 hzs (by decide) (.slice none 0 0) 0 [] (World.ownsRow_nil w 0 _ _) ad 0 c1 news (by omega) hnews h1 (by unfold maxLen; omega) (by omega) (Nat.zero_le _)
      rw [hr] at hr2
      injection hr2 with e1 e2
      have := (hiff.2 ⟨rfl, rfl⟩)
      rw [← e1] at this
      rw [this] at hg; cases hg
    · have hr2 := run_append_nil (P := Tryz.prog) w sl ty E i0 z hu hi hz0 ad n1 c1 news hl' hnews (by omega) (by omega) (by rw [hz2]; exact Nat.le_trans (by rw [Nat.zero_add] at hmul; exact hmul) (by decide))
      rw [hr] at hr2
      injection hr2 with e1 e2
      subst e1
      simp [Value.ownBlock] at hg
      exact .inr (by omega)
  · injection hv with e1 e2 e3
    subst e1 e3
    by_cases hroom : n + n1 ≤ c
    · have hr2 := run_append_room (P := Tryz.prog) w sl ty E i0 hu hi g0 n c cur hgg ad n1 c1 news hl' hnews h1 hroom (by rw [hz1]; omega)
      rw [hr] at hr2
      injection hr2 with e1 e2
      subst e1
      exact .inl hg
    · have holds : ∀ j u, xs[j]? = some u → w.cell? ((⟨g0, 0, none⟩ : Addr).add j) = some u := World.ownsRow.cells hown (g := g0) rfl
      have hr2 := run_append_grow (P := Tryz.prog) w sl ty E i0 z hu hi hz0 ⟨g0, 0, none⟩ n c xs (by rw [hz1]; have := hown.1; simpa using this) holds ad n1 c1 news hl' hnews (by omega) (by omega) (growslice_fits (by omega) (by rw [hz2]; exact hmul))
      rw [hr] at hr2
      injection hr2 with e1 e2
      subst e1
      simp [Value.ownBlock] at hg
      exact .inr (by omega)
theorem append_one {wr : World} {ops : Array Oper} {rest : List Oper} {o : Oper} {a : Act} {Q : Exit → Act → World → Prop} {sl E : TypeId} {i0 : TypeInfo} {z0 : Value} {bytes : Nat}
    (hu : Tryz.prog.underlying sl = some (.slice E)) (hi : Tryz.prog.info? E = some i0) (hz0 : i0.zero = some z0) (hz1 : i0.size = 1) (hz2 : i0.bytes = bytes) (hzs : z0.cells.size = 1) (hby : bytes ≤ 48)
    (hgd : o.guard = none) (s x : Operand) (ho : o.op = .call { callee := .builtin .append, args := #[s, x], argTypes := #[sl, sl] })
    {base n c : Nat} {A : Option Addr} {xs : List Value} {z : Value} (hs : a.eval s = .slice A n c) (H : Nat) (hH : wr.heap.size = H) (hx : a.eval x = .slice (some ⟨H, 0, none⟩) 1 1)
    (hown : wr.ownsRow base E 1 (.slice A n c) n xs) (hzc : z.oneCell' = true) (hn : n ≤ 549755813888) (hbase : base ≤ wr.heap.size)
    (h : ∀ A' c' w', w'.ownsRow base E 1 (.slice A' (n + 1) c') (n + 1) (xs ++ [z]) → wr.grownBy w' (Value.slice A n c).ownBlock → (∀ g, (Value.slice A' (n + 1) c').ownBlock = some g → (Value.slice A n c).ownBlock = some g ∨ wr.heap.size ≤ g) → wpList Tryz.prog ops Q rest (a.put o.dst (.slice A' (n + 1) c')) w') :
    wpList Tryz.prog ops Q (o :: rest) a (wr.alloc (.cells #[z] E)) := by
  subst hH
  have hmul : (n + 1) * bytes ≤ 140737488355328 := Nat.le_trans (Nat.mul_le_mul (Nat.add_le_add hn (Nat.le_refl 1)) hby) (by decide)
  have hnews : ∀ j u, [z][j]? = some u → (wr.alloc (.cells #[z] E)).cell? ((⟨wr.heap.size, 0, none⟩ : Addr).add j) = some u := by
    intro j u hj
    match j, hj with
    | 0, hj => simp at hj; subst hj; simp [Addr.add]
  have h1 : ∀ u ∈ [z], u.oneCell' = true := by intro u hu; simp at hu; subst hu; exact hzc
  have ho2 := World.ownsRow.alloc hown (.cells #[z] E)
  obtain ⟨v', w', hr, h2, h3, h4⟩ := run_append_own (P := Tryz.prog) (wr.alloc (.cells #[z] E)) base sl o.type E i0 z0 1 bytes hu hi hz0 hz1 hz2 hzs (by decide) _ n _ ho2 ⟨wr.heap.size, 0, none⟩ 1 1 [z] rfl hnews h1 (by unfold maxLen; omega) hmul (by simp; omega)
  have hk := append_blkG (ty := o.type) hu hi hz0 hz1 hz2 hzs hby ho2 (n1 := 1) rfl hnews h1 (by omega) (by omega) hr
  refine wpList_plain hgd fun K hK => ?_
  unfold Oper.wp
  simp [execOp, ho, resolve, invoke, builtin, hs, hx, hr, Result.andThen]
  obtain ⟨A', c', rfl⟩ := own_shapeK h2
  exact hK _ _ (h A' c' w' h2 (grown_trans (World.grownBy_alloc wr _ _) h3) (fun g hg => (hk g hg).elim .inl fun h => .inr (by simp at h; omega)))
end Go.Proofs.YtgnpgkkjcloghaaGreat.AppOne
namespace Go.Proofs.YtgnpgkkjcloghaaGreat.Sc
open Lib
open Go.RowKit Bytes Rows_ RowK Gr DOk
theorem iv_snoc (zs : List Int) (z : Int) : iv zs ++ [.int .i64 z] = iv (zs ++ [z]) := by simp [iv]
end Go.Proofs.YtgnpgkkjcloghaaGreat.Sc
