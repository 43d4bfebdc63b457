/- FnExactSameGrid: the walk of the law from the contracts of the program, of its model and of the laws' helpers; at every input, no condition. -/
import Derived.Test.YtknopmbjbokpaaaGrLaw
import Derived.Test.YtknopmbjbokpaaaGrSame
import Derived.Deep.RegionWith
import Derived.Deep.Cut
import Derived.Deep.CutRange
import Derived.Deep.DeepCutAuto
import Derived.Deep.DrawnRows
namespace Go.Proofs.Ytknopmbjbokpaaa.fnExactSameGrid
open Go.RowKit Go.Proofs.Ytknopmbjbokpaaa.Bytes Go.Proofs.Ytknopmbjbokpaaa.Rows_ Go.Proofs.Ytknopmbjbokpaaa.RowK Go.Proofs.Ytknopmbjbokpaaa.Gr
set_option linter.unusedVariables false
attribute [local go_sem ↓] Go.wp_at_zero Go.wp_at_succ
theorem own : ownKnob Try.prog.godebug = none := by kernel_rfl
set_option maxRecDepth 100000 in
set_option maxHeartbeats 16000000 in
theorem walk (gw gh : Int) (A : Option Addr) (n c : Nat) (cs : List CellD) (gw2 gh2 : Int) (A2 : Option Addr) (n2 c2 : Nat) (cs2 : List CellD) (w : World) (hr : RdC w w.heap.size A cs) (hl : cs.length = n) (hn : n ≤ 9223372036854775807) (hr2 : RdC w w.heap.size A2 cs2) (hl2 : cs2.length = n2) (hn2 : n2 ≤ 9223372036854775807)  :
    Calls Try.prog 13 #[.agg #[.int .i64 gw, .int .i64 gh, .slice A n c], .agg #[.int .i64 gw2, .int .i64 gh2, .slice A2 n2 c2]] w fun e w' => e = .returned (.bool true) ∧ Below w.heap.size w w' := by
  have hb0 := Lib.hid (((Below.refl w.heap.size w).alloc (by simp <;> omega) (.cells #[.int .i64 gw, .int .i64 gh, .slice A n c] 47)).alloc (by simp <;> omega) (.cells #[.int .i64 gw2, .int .i64 gh2, .slice A2 n2 c2] 47))
  have x0a : BoxK (w.alloc (.cells #[.int .i64 gw, .int .i64 gh, .slice A n c] 47)) (w.heap.size) [.int .i64 gw, .int .i64 gh, .slice A n c] := by have h := BoxK.new w [.int .i64 gw, .int .i64 gh, .slice A n c] 47; exact h
  have x0a2 : BoxK ((w.alloc (.cells #[.int .i64 gw, .int .i64 gh, .slice A n c] 47)).alloc (.cells #[.int .i64 gw2, .int .i64 gh2, .slice A2 n2 c2] 47)) (w.heap.size + 1) [.int .i64 gw2, .int .i64 gh2, .slice A2 n2 c2] := by have h := BoxK.new (w.alloc (.cells #[.int .i64 gw, .int .i64 gh, .slice A n c] 47)) [.int .i64 gw2, .int .i64 gh2, .slice A2 n2 c2] 47; simp only [World.size_alloc] at h; exact h
  replace x0a := BoxK.alloc x0a (by simp <;> omega) (.cells #[.int .i64 gw2, .int .i64 gh2, .slice A2 n2 c2] 47)
  have X0a := Lib.hid x0a
  clear x0a
  have X0a2 := Lib.hid x0a2
  clear x0a2
  have HTB := Lib.hid (fun W (h : Below w.heap.size w W) (hn' : n ≤ 1048576) => toG (B := 0) gw gh A n c cs hr hl hn' h)
  have HLN := Lib.hid hl
  have HTB2 := Lib.hid (fun W (h : Below w.heap.size w W) (hn' : n2 ≤ 1048576) => toG (B := 0) gw2 gh2 A2 n2 c2 cs2 hr2 hl2 hn' h)
  have HLN2 := Lib.hid hl2
  obtain ⟨sb, hsb⟩ : ∃ b, b = sameB gw gh gw2 gh2 cs cs2 := ⟨_, rfl⟩
  have HV := Lib.hid hsb.symm
  clear hsb
  have hne : (sb != sb) = false := by simp
  have HSZ := Lib.hid (fun W => szGrid_any gw gh A n c (1048576) W hn (by omega) (by omega))
  by_cases hbig : (1048576 : Int) < (n : Int)
  · rw [if_pos hbig] at HSZ
    clear hr hl hr2 hl2
    go_enter Try.func13, Try.ntmps13
    go_wp2_with fail
    refine (HSZ.out _).mono ?_
    rintro e v1 ⟨rfl, hx1⟩
    have HB1 := Lib.hid (hb0.out.trans (hx1.mono (by simp <;> omega)))
    have z1 : w.heap.size ≤ v1.heap.size := HB1.out.size
    have XXa := Lib.hid (BoxK.below X0a.out hx1 (by simp <;> omega))
    have s1a : w.heap.size < v1.heap.size := by have := hx1.size; simp at this; omega
    have t1a := s1a
    have XXa2 := Lib.hid (BoxK.below X0a2.out hx1 (by simp <;> omega))
    have s1a2 : w.heap.size + 1 < v1.heap.size := by have := hx1.size; simp at this; omega
    have t1a2 := s1a2
    clear hx1 hb0 X0a X0a2
    clear HSZ
    go_wp2_with fail
    go_ret
    exact ⟨rfl, HB1.out⟩
  rw [if_neg hbig] at HSZ
  skip
  have hlf1 : 0 ≤ (1048576 - n : Int) := by omega
  by_cases hbig2 : (1048576 - n : Int) < (n2 : Int)
  · have HSZ2 := Lib.hid (fun W => szGrid_any gw2 gh2 A2 n2 c2 (1048576 - n) W hn2 (by omega) (by omega))
    rw [if_pos hbig2] at HSZ2
    clear hr hl hr2 hl2
    go_enter Try.func13, Try.ntmps13
    go_wp2_with fail
    refine (HSZ.out _).mono ?_
    rintro e v1 ⟨rfl, hx1⟩
    have HB1 := Lib.hid (hb0.out.trans (hx1.mono (by simp <;> omega)))
    have z1 : w.heap.size ≤ v1.heap.size := HB1.out.size
    have XXa := Lib.hid (BoxK.below X0a.out hx1 (by simp <;> omega))
    have s1a : w.heap.size < v1.heap.size := by have := hx1.size; simp at this; omega
    have t1a := s1a
    have XXa2 := Lib.hid (BoxK.below X0a2.out hx1 (by simp <;> omega))
    have s1a2 : w.heap.size + 1 < v1.heap.size := by have := hx1.size; simp at this; omega
    have t1a2 := s1a2
    clear hx1 hb0 X0a X0a2
    clear HSZ
    have a2q0 := XXa2.out 0 _ rfl
    have a2q1 := XXa2.out 1 _ rfl
    have a2q2 := XXa2.out 2 _ rfl
    go_wp2_with fail
    refine (HSZ2.out _).mono ?_
    rintro e v2 ⟨rfl, hx2⟩
    clear a2q0 a2q1 a2q2
    have hst2 : Below v1.heap.size v1 v2 := hx2
    have HB2 := Lib.hid (HB1.out.trans (hst2.mono z1))
    clear HB1
    have z2 : w.heap.size ≤ v2.heap.size := HB2.out.size
    clear z1
    have ch2 : v1.heap.size ≤ v2.heap.size := hst2.size
    have XXa_2 := Lib.hid (BoxK.below XXa.out hst2 s1a)
    clear XXa
    have s2a : w.heap.size < v2.heap.size := Nat.lt_of_lt_of_le s1a hst2.size
    clear s1a
    have XXa2_2 := Lib.hid (BoxK.below XXa2.out hst2 s1a2)
    clear XXa2
    have s2a2 : w.heap.size + 1 < v2.heap.size := Nat.lt_of_lt_of_le s1a2 hst2.size
    clear s1a2
    clear hx2 hst2
    clear HSZ2
    go_wp2_with fail
    go_ret
    exact ⟨rfl, HB2.out⟩
  have HSZ2 := Lib.hid (fun W => szGrid_any gw2 gh2 A2 n2 c2 (1048576 - n) W hn2 (by omega) (by omega))
  rw [if_neg hbig2] at HSZ2
  have HT := Lib.hid (fun W (h : Below w.heap.size w W) => HTB.out W h (by omega))
  clear HTB hr hl
  have HT2 := Lib.hid (fun W (h : Below w.heap.size w W) => HTB2.out W h (by omega))
  clear HTB2 hr2 hl2
  have hlf0 : 0 ≤ (1048576 : Int) - n - n2 := by omega
  have hN : n ≤ 1048576 ∧ n2 ≤ 1048576 := by omega
  clear hbig hbig2
  go_enter Try.func13, Try.ntmps13
  go_wp2_with fail
  refine (HSZ.out _).mono ?_
  rintro e v1 ⟨rfl, hx1⟩
  have HB1 := Lib.hid (hb0.out.trans (hx1.mono (by simp <;> omega)))
  have z1 : w.heap.size ≤ v1.heap.size := HB1.out.size
  have XXa := Lib.hid (BoxK.below X0a.out hx1 (by simp <;> omega))
  have s1a : w.heap.size < v1.heap.size := by have := hx1.size; simp at this; omega
  have t1a := s1a
  have XXa2 := Lib.hid (BoxK.below X0a2.out hx1 (by simp <;> omega))
  have s1a2 : w.heap.size + 1 < v1.heap.size := by have := hx1.size; simp at this; omega
  have t1a2 := s1a2
  clear hx1 hb0 X0a X0a2
  clear HSZ
  have a2q0 := XXa2.out 0 _ rfl
  have a2q1 := XXa2.out 1 _ rfl
  have a2q2 := XXa2.out 2 _ rfl
  go_wp2_with fail
  refine (HSZ2.out _).mono ?_
  rintro e v2 ⟨rfl, hx2⟩
  clear a2q0 a2q1 a2q2
  have hst2 : Below v1.heap.size v1 v2 := hx2
  have HB2 := Lib.hid (HB1.out.trans (hst2.mono z1))
  clear HB1
  have z2 : w.heap.size ≤ v2.heap.size := HB2.out.size
  clear z1
  have ch2 : v1.heap.size ≤ v2.heap.size := hst2.size
  have XXa_2 := Lib.hid (BoxK.below XXa.out hst2 s1a)
  clear XXa
  have s2a : w.heap.size < v2.heap.size := Nat.lt_of_lt_of_le s1a hst2.size
  clear s1a
  have XXa2_2 := Lib.hid (BoxK.below XXa2.out hst2 s1a2)
  clear XXa2
  have s2a2 : w.heap.size + 1 < v2.heap.size := Nat.lt_of_lt_of_le s1a2 hst2.size
  clear s1a2
  clear hx2 hst2
  clear HSZ2
  have HSpec := Lib.hid (fun (W : World) (F F' : Option Addr) (d d' B B' : Nat) (h1 : OwnC W B F n d cs) (h2 : OwnC W B' F' n2 d' cs2) => HV.out ▸ spec_SameGrid_own gw gh gw2 gh2 h1 h2 hN.1 hN.2)
  have HImpl := Lib.hid (fun (W : World) (F F' : Option Addr) (d d' B B' : Nat) (h1 : OwnC W B F n d cs) (h2 : OwnC W B' F' n2 d' cs2) => HV.out ▸ impl_SameGrid_own gw gh gw2 gh2 h1 h2 hN.1 hN.2)
  clear HV
  have XOa := XXa_2
  have SOa := Lib.hid s2a
  have XOa2 := XXa2_2
  have SOa2 := Lib.hid s2a2
  have HBW := Lib.hid (show Below w.heap.size w v2.drew from ⟨HB2.out.os, HB2.out.tape, HB2.out.output, HB2.out.size, HB2.out.block⟩)
  have HBZ := HB2
  have ZZ := Lib.hid z2
  have aq0 := XXa_2.out 0 _ rfl
  have aq1 := XXa_2.out 1 _ rfl
  have aq2 := XXa_2.out 2 _ rfl
  have a2q0 := XXa2_2.out 0 _ rfl
  have a2q1 := XXa2_2.out 1 _ rfl
  have a2q2 := XXa2_2.out 2 _ rfl
  go_upto_region 8 with fail
  go_cut [6] (fun s wx => s = .bool sb ∧ Below v2.heap.size v2 wx)
  case first =>
    go_region_with (first
      | (go_at_call 27; (with_reducible refine (HT.out _ ?_).mono ?_); (first | exact HBY.out | exact HBW.out); rintro e y_ ⟨F_, d_, rfl, ho_, hx_⟩; (first | (have HS_ := Lib.hid (HS2_.out.trans (hx_.mono HS2_.out.size)); have HOr2_ := Lib.hid (HOq2_.out.below (Nat.le_refl _) hx_)) | (have HS_ := Lib.hid (undrew hx_); have HBY := Lib.hid (HBZ.out.trans (HS_.out.mono ZZ.out)); have a2r0 := BoxK.below XOa2.out HS_.out SOa2.out 0 _ rfl; have a2r1 := BoxK.below XOa2.out HS_.out SOa2.out 1 _ rfl; have a2r2 := BoxK.below XOa2.out HS_.out SOa2.out 2 _ rfl)); have HOq_ := Lib.hid ho_; clear ho_ hx_)
      | (go_at_call 27; (with_reducible refine (HT2.out _ ?_).mono ?_); (first | exact HBY.out | exact HBW.out); rintro e y2_ ⟨F2_, d2_, rfl, ho2_, hx2_⟩; (first | (have HS2_ := Lib.hid (HS_.out.trans (hx2_.mono HS_.out.size)); have HOr_ := Lib.hid (HOq_.out.below (Nat.le_refl _) hx2_)) | (have HS2_ := Lib.hid (undrew hx2_); have HBY := Lib.hid (HBZ.out.trans (HS2_.out.mono ZZ.out)); have ar0 := BoxK.below XOa.out HS2_.out SOa.out 0 _ rfl; have ar1 := BoxK.below XOa.out HS2_.out SOa.out 1 _ rfl; have ar2 := BoxK.below XOa.out HS2_.out SOa.out 2 _ rfl)); have HOq2_ := Lib.hid ho2_; clear ho2_ hx2_)
      | (go_at_call 42; (first | (refine (HSpec.out _ _ _ _ _ _ _ HOq_.out HOr2_.out).mono ?_) | (refine (HSpec.out _ _ _ _ _ _ _ HOr_.out HOq2_.out).mono ?_)); rintro e yf ⟨rfl, hxf⟩; (first | (have HE := Lib.hid (HS_.out.trans (hxf.mono HS_.out.size))) | (have HE := Lib.hid (HS2_.out.trans (hxf.mono HS2_.out.size)))); clear hxf))
    all_goals
      go_wp2_with fail
      go_meet
      case rel => exact ⟨rfl, HE.out⟩
  case rest =>
    obtain ⟨rfl, hx⟩ := hcut
    clear aq0 aq1 aq2
    clear a2q0 a2q1 a2q2
    clear HBW HBZ ZZ XOa SOa XOa2 SOa2
    obtain ⟨wk3, rfl⟩ : ∃ v : World, v = wc := ⟨_, rfl⟩
    have HB3 := Lib.hid (HB2.out.trans (hx.mono z2))
    clear HB2
    have z3 : w.heap.size ≤ wk3.heap.size := HB3.out.size
    clear z2
    have ch3 : v2.heap.size ≤ wk3.heap.size := hx.size
    have XXa_2_3 := Lib.hid (BoxK.below XXa_2.out hx s2a)
    clear XXa_2
    have s3a : w.heap.size < wk3.heap.size := Nat.lt_of_lt_of_le s2a hx.size
    clear s2a
    have XXa2_2_3 := Lib.hid (BoxK.below XXa2_2.out hx s2a2)
    clear XXa2_2
    have s3a2 : w.heap.size + 1 < wk3.heap.size := Nat.lt_of_lt_of_le s2a2 hx.size
    clear s2a2
    clear hx
    have aq0 := XXa_2_3.out 0 _ rfl
    have aq1 := XXa_2_3.out 1 _ rfl
    have aq2 := XXa_2_3.out 2 _ rfl
    have HPB := HB3
    go_wp2_with fail
    refine (HT.out _ HPB.out).mono ?_
    rintro e v4 ⟨F4, d4, rfl, ho4, hx4⟩
    clear aq0 aq1 aq2
    have HO4 := Lib.hid ho4
    have HL4 := Lib.hid (show ∀ i, (Value.slice F4 n d4).ownBlock = some i → wk3.heap.size ≤ i ∧ (wk3.heap.size = i → True) ∧ i < v4.heap.size from fun i hi => by have := ho4.blk i hi; exact ⟨by omega, fun _ => trivial, this.2⟩)
    clear ho4
    have hst4 : Below wk3.heap.size wk3 v4 := hx4
    have HB4 := Lib.hid (HB3.out.trans (hst4.mono z3))
    clear HB3
    have z4 : w.heap.size ≤ v4.heap.size := HB4.out.size
    clear z3
    have ch4 : wk3.heap.size ≤ v4.heap.size := hst4.size
    have XXa_2_3_4 := Lib.hid (BoxK.below XXa_2_3.out hst4 s3a)
    clear XXa_2_3
    have s4a : w.heap.size < v4.heap.size := Nat.lt_of_lt_of_le s3a hst4.size
    clear s3a
    have XXa2_2_3_4 := Lib.hid (BoxK.below XXa2_2_3.out hst4 s3a2)
    clear XXa2_2_3
    have s4a2 : w.heap.size + 1 < v4.heap.size := Nat.lt_of_lt_of_le s3a2 hst4.size
    clear s3a2
    clear hx4 hst4
    have a2q0 := XXa2_2_3_4.out 0 _ rfl
    have a2q1 := XXa2_2_3_4.out 1 _ rfl
    have a2q2 := XXa2_2_3_4.out 2 _ rfl
    have HAL := Lib.hid ((Below.refl v4.heap.size v4).alloc (Nat.le_refl _) (.cells #[.int .i64 gw, .int .i64 gh, .slice F4 n d4] 25))
    have HPB := Lib.hid (HB4.out.trans (HAL.out.mono z4))
    go_wp2_with fail
    refine (HT2.out _ HPB.out).mono ?_
    rintro e v5 ⟨F5, d5, rfl, ho5, hx5⟩
    clear HPB
    clear a2q0 a2q1 a2q2
    have HO5 := Lib.hid ho5
    have HL5 := Lib.hid (show ∀ i, (Value.slice F5 n2 d5).ownBlock = some i → v4.heap.size ≤ i ∧ (v4.heap.size = i → False) ∧ i < v5.heap.size from fun i hi => by have := ho5.blk i hi; simp at this; exact ⟨by omega, fun e => by omega, this.2⟩)
    clear ho5
    have hst5 : Below v4.heap.size v4 v5 := HAL.out.trans (hx5.mono (by simp))
    have HO4_5 := Lib.hid (HO4.out.below (Nat.le_refl _) hst5)
    clear HO4
    have HB5 := Lib.hid (HB4.out.trans (hst5.mono z4))
    clear HB4
    have z5 : w.heap.size ≤ v5.heap.size := HB5.out.size
    clear z4
    have ch5 : v4.heap.size ≤ v5.heap.size := hst5.size
    have XXa_2_3_4_5 := Lib.hid (BoxK.below XXa_2_3_4.out hst5 s4a)
    clear XXa_2_3_4
    have s5a : w.heap.size < v5.heap.size := Nat.lt_of_lt_of_le s4a hst5.size
    clear s4a
    have XXa2_2_3_4_5 := Lib.hid (BoxK.below XXa2_2_3_4.out hst5 s4a2)
    clear XXa2_2_3_4
    have s5a2 : w.heap.size + 1 < v5.heap.size := Nat.lt_of_lt_of_le s4a2 hst5.size
    clear s4a2
    have Xbx := Lib.hid (BoxK.below (BoxK.new v4 [.int .i64 gw, .int .i64 gh, .slice F4 n d4] 25) hx5 (by simp))
    have s5bx : v4.heap.size < v5.heap.size := by have := hx5.size; simp at this; omega
    have tbx := s5bx
    clear HAL
    clear hx5 hst5
    have bxq0 := Xbx.out 0 _ rfl
    have bxq1 := Xbx.out 1 _ rfl
    have bxq2 := Xbx.out 2 _ rfl
    have HAL := Lib.hid ((Below.refl v5.heap.size v5).alloc (Nat.le_refl _) (.cells #[.int .i64 gw2, .int .i64 gh2, .slice F5 n2 d5] 25))
    have HP0 := Lib.hid (HO4_5.out.below (Nat.le_refl _) HAL.out)
    have HP1 := Lib.hid (HO5.out.below (Nat.le_refl _) HAL.out)
    go_wp2_with fail
    refine (HImpl.out _ _ _ _ _ _ _ HP0.out HP1.out).mono ?_
    rintro e v6 ⟨rfl, hx6⟩
    clear HP0
    clear HP1
    clear bxq0 bxq1 bxq2
    have hst6 : Below v5.heap.size v5 v6 := HAL.out.trans (hx6.mono (by simp))
    have HO4_5_6 := Lib.hid (HO4_5.out.below (Nat.le_refl _) hst6)
    clear HO4_5
    have HO5_6 := Lib.hid (HO5.out.below (Nat.le_refl _) hst6)
    clear HO5
    have HB6 := Lib.hid (HB5.out.trans (hst6.mono z5))
    clear HB5
    have z6 : w.heap.size ≤ v6.heap.size := HB6.out.size
    clear z5
    have ch6 : v5.heap.size ≤ v6.heap.size := hst6.size
    have XXa_2_3_4_5_6 := Lib.hid (BoxK.below XXa_2_3_4_5.out hst6 s5a)
    clear XXa_2_3_4_5
    have s6a : w.heap.size < v6.heap.size := Nat.lt_of_lt_of_le s5a hst6.size
    clear s5a
    have XXa2_2_3_4_5_6 := Lib.hid (BoxK.below XXa2_2_3_4_5.out hst6 s5a2)
    clear XXa2_2_3_4_5
    have s6a2 : w.heap.size + 1 < v6.heap.size := Nat.lt_of_lt_of_le s5a2 hst6.size
    clear s5a2
    have Xbx_6 := Lib.hid (BoxK.below Xbx.out hst6 s5bx)
    clear Xbx
    have s6bx : v4.heap.size < v6.heap.size := Nat.lt_of_lt_of_le s5bx hst6.size
    clear s5bx
    have Xby_ := Lib.hid (BoxK.below (BoxK.new v5 [.int .i64 gw2, .int .i64 gh2, .slice F5 n2 d5] 25) hx6 (by simp))
    have s6by_ : v5.heap.size < v6.heap.size := by have := hx6.size; simp at this; omega
    have tby_ := s6by_
    clear HAL
    clear hx6 hst6
    have aq0 := XXa_2_3_4_5_6.out 0 _ rfl
    have aq1 := XXa_2_3_4_5_6.out 1 _ rfl
    have aq2 := XXa_2_3_4_5_6.out 2 _ rfl
    have bxq0 := Xbx_6.out 0 _ rfl
    have bxq1 := Xbx_6.out 1 _ rfl
    have bxq2 := Xbx_6.out 2 _ rfl
    go_upto_region 14 with fail
    go_cut [39] (fun s wx => s = .bool false ∧ Below v6.heap.size v6 wx)
    case first =>
      go_region_with (first
        | (go_at_call 27; refine (HT.out _ ?_).mono ?_; exact ⟨HB6.out.os, HB6.out.tape, HB6.out.output, HB6.out.size, HB6.out.block⟩; rintro e y1 ⟨Fy, dy, rfl, hoy, hxy'⟩; have hxy : Below v6.heap.size v6 y1 := undrew hxy'; clear hxy'; have HOY := Lib.hid hoy; have HPY := Lib.hid (HO4_5_6.out.below (Nat.le_refl _) hxy); obtain ⟨r0, r1, r2⟩ : y1.cell? ⟨v4.heap.size, 0, none⟩ = some (.int .i64 gw) ∧ y1.cell? ⟨v4.heap.size, 1, none⟩ = some (.int .i64 gh) ∧ y1.cell? ⟨v4.heap.size, 2, none⟩ = some (.slice F4 n d4) := ⟨BoxK.below Xbx_6.out hxy s6bx 0 _ rfl, BoxK.below Xbx_6.out hxy s6bx 1 _ rfl, BoxK.below Xbx_6.out hxy s6bx 2 _ rfl⟩; have HXY := Lib.hid hxy; have zy := hxy.size; clear hoy hxy)
        | (go_at_call 28; refine (eqG gw gh HPY.out HOY.out (by omega)).mono ?_; rintro e y2 ⟨rfl, hxz⟩))
      all_goals
        have HE := Lib.hid (HXY.out.trans (hxz.mono zy))
        clear hxz
        go_wp2_with fail
        go_meet
        case rel => exact ⟨rfl, HE.out⟩
    case rest =>
      obtain ⟨rfl, hx⟩ := hcut
      clear aq0 aq1 aq2
      clear bxq0 bxq1 bxq2
      have HO4_5_6_7 := Lib.hid (HO4_5_6.out.below (Nat.le_refl _) hx)
      clear HO4_5_6
      have HO5_6_7 := Lib.hid (HO5_6.out.below (Nat.le_refl _) hx)
      clear HO5_6
      have HB7 := Lib.hid (HB6.out.trans (hx.mono z6))
      clear HB6
      have z7 : w.heap.size ≤ wc.heap.size := HB7.out.size
      clear z6
      have ch7 : v6.heap.size ≤ wc.heap.size := hx.size
      have XXa_2_3_4_5_6_7 := Lib.hid (BoxK.below XXa_2_3_4_5_6.out hx s6a)
      clear XXa_2_3_4_5_6
      have s7a : w.heap.size < wc.heap.size := Nat.lt_of_lt_of_le s6a hx.size
      clear s6a
      have XXa2_2_3_4_5_6_7 := Lib.hid (BoxK.below XXa2_2_3_4_5_6.out hx s6a2)
      clear XXa2_2_3_4_5_6
      have s7a2 : w.heap.size + 1 < wc.heap.size := Nat.lt_of_lt_of_le s6a2 hx.size
      clear s6a2
      have Xbx_6_7 := Lib.hid (BoxK.below Xbx_6.out hx s6bx)
      clear Xbx_6
      have s7bx : v4.heap.size < wc.heap.size := Nat.lt_of_lt_of_le s6bx hx.size
      clear s6bx
      have Xby__7 := Lib.hid (BoxK.below Xby_.out hx s6by_)
      clear Xby_
      have s7by_ : v5.heap.size < wc.heap.size := Nat.lt_of_lt_of_le s6by_ hx.size
      clear s6by_
      clear hx
      obtain ⟨wk, rfl⟩ : ∃ v : World, v = wc := ⟨_, rfl⟩
      have a2q0 := XXa2_2_3_4_5_6_7.out 0 _ rfl
      have a2q1 := XXa2_2_3_4_5_6_7.out 1 _ rfl
      have a2q2 := XXa2_2_3_4_5_6_7.out 2 _ rfl
      have by_q0 := Xby__7.out 0 _ rfl
      have by_q1 := Xby__7.out 1 _ rfl
      have by_q2 := Xby__7.out 2 _ rfl
      go_upto_region 16 with fail
      go_cut [44] (fun s wx => s = .bool false ∧ Below wk.heap.size wk wx)
      case first =>
        go_region_with (first
          | (go_at_call 27; refine (HT2.out _ ?_).mono ?_; exact ⟨HB7.out.os, HB7.out.tape, HB7.out.output, HB7.out.size, HB7.out.block⟩; rintro e y1 ⟨Fy, dy, rfl, hoy, hxy'⟩; have hxy : Below wk.heap.size wk y1 := undrew hxy'; clear hxy'; have HOY := Lib.hid hoy; have HPY := Lib.hid (HO5_6_7.out.below (Nat.le_refl _) hxy); obtain ⟨r0, r1, r2⟩ : y1.cell? ⟨v5.heap.size, 0, none⟩ = some (.int .i64 gw2) ∧ y1.cell? ⟨v5.heap.size, 1, none⟩ = some (.int .i64 gh2) ∧ y1.cell? ⟨v5.heap.size, 2, none⟩ = some (.slice F5 n2 d5) := ⟨BoxK.below Xby__7.out hxy s7by_ 0 _ rfl, BoxK.below Xby__7.out hxy s7by_ 1 _ rfl, BoxK.below Xby__7.out hxy s7by_ 2 _ rfl⟩; have HXY := Lib.hid hxy; have zy := hxy.size; clear hoy hxy)
          | (go_at_call 28; refine (eqG gw2 gh2 HPY.out HOY.out (by omega)).mono ?_; rintro e y2 ⟨rfl, hxz⟩))
        all_goals
          have HE := Lib.hid (HXY.out.trans (hxz.mono zy))
          clear hxz
          go_wp2_with fail
          go_meet
          case rel => exact ⟨rfl, HE.out⟩
      case rest =>
        obtain ⟨rfl, hx⟩ := hcut
        clear a2q0 a2q1 a2q2
        clear by_q0 by_q1 by_q2
        have HO4_5_6_7_8 := Lib.hid (HO4_5_6_7.out.below (Nat.le_refl _) hx)
        clear HO4_5_6_7
        have HO5_6_7_8 := Lib.hid (HO5_6_7.out.below (Nat.le_refl _) hx)
        clear HO5_6_7
        have HB8 := Lib.hid (HB7.out.trans (hx.mono z7))
        clear HB7
        have z8 : w.heap.size ≤ wc.heap.size := HB8.out.size
        clear z7
        have ch8 : wk.heap.size ≤ wc.heap.size := hx.size
        have XXa_2_3_4_5_6_7_8 := Lib.hid (BoxK.below XXa_2_3_4_5_6_7.out hx s7a)
        clear XXa_2_3_4_5_6_7
        have s8a : w.heap.size < wc.heap.size := Nat.lt_of_lt_of_le s7a hx.size
        clear s7a
        have XXa2_2_3_4_5_6_7_8 := Lib.hid (BoxK.below XXa2_2_3_4_5_6_7.out hx s7a2)
        clear XXa2_2_3_4_5_6_7
        have s8a2 : w.heap.size + 1 < wc.heap.size := Nat.lt_of_lt_of_le s7a2 hx.size
        clear s7a2
        have Xbx_6_7_8 := Lib.hid (BoxK.below Xbx_6_7.out hx s7bx)
        clear Xbx_6_7
        have s8bx : v4.heap.size < wc.heap.size := Nat.lt_of_lt_of_le s7bx hx.size
        clear s7bx
        have Xby__7_8 := Lib.hid (BoxK.below Xby__7.out hx s7by_)
        clear Xby__7
        have s8by_ : v5.heap.size < wc.heap.size := Nat.lt_of_lt_of_le s7by_ hx.size
        clear s7by_
        clear hx
        go_wp2_with fail
        go_ret
        exact ⟨rfl, HB8.out⟩
end Go.Proofs.Ytknopmbjbokpaaa.fnExactSameGrid
