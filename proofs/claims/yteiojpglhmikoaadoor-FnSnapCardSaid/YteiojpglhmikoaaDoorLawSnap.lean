/- FnSnap: the walk of the law from the contracts of the program and of the draws; at every input, no condition. -/
import Derived.Test.YteiojpglhmikoaaDoorSnapMath
import Derived.Test.YteiojpglhmikoaaDoorSnapReadI
import Derived.Test.YteiojpglhmikoaaDoorSnapImpl
import Derived.Test.YteiojpglhmikoaaDoorGenOf
import Derived.Test.YteiojpglhmikoaaDoorDrawMake
import Derived.Test.YteiojpglhmikoaaDoorDrawNum
import Derived.Test.YteiojpglhmikoaaDoorConv
import Derived.Test.YteiojpglhmikoaaDoorTabs2
import Derived.Test.YteiojpglhmikoaaDoorTabsE
import Derived.Deep.RegionWith
import Derived.Deep.RegionLaw
namespace Go.Proofs.YteiojpglhmikoaaDoor.SnapL
open Go.RowKit Go.Shelf Go.Proofs.YteiojpglhmikoaaDoor.Bytes Go.Proofs.YteiojpglhmikoaaDoor.Var Go.Proofs.YteiojpglhmikoaaDoor.Crc Go.Proofs.YteiojpglhmikoaaDoor.Frame Go.Proofs.YteiojpglhmikoaaDoor.Snap Go.Proofs.YteiojpglhmikoaaDoor.As Go.Proofs.YteiojpglhmikoaaDoor.Num
set_option linter.unusedVariables false

/-- what the walk asks of the library's own variables -/
def Vars (w : World) : Prop := (ErrVars w ∧ Lib.TabIs Tryd.prog w "internal/strconv.uint64pow10" .u64 Lib.pow10Tab) ∧ ErrT w
theorem Vars.below {w w' : World} (h : Vars w) (hb : Below w.heap.size w w') : Vars w' := ⟨⟨h.1.1.below hb, var_below hb h.1.2⟩, h.2.below hb⟩
theorem vars {W : World} (h : laidMetH Tryd.prog Rows.fnSnapRow.laid W) : Vars W := by
  have h' : laidMet Tryd.prog [("math/bits.deBruijn32tab", Rows.laid_math_bits_deBruijn32tab), ("math/bits.deBruijn64tab", Rows.laid_math_bits_deBruijn64tab), ("internal/strconv.uint64pow10", Rows.laid_internal_strconv_uint64pow10), ("strconv.ErrRange", Rows.laid_strconv_ErrRange), ("strconv.ErrSyntax", Rows.laid_strconv_ErrSyntax)] W ∧ handlesMet Tryd.prog [("errors.errorType", Rows.laid_errors_errorType)] W := h
  exact ⟨Tabs.five h'.1, Tabs.errT_of h'.2⟩
theorem rb (ds : List Int) (h : ds.length ≤ 40) : snK 3 9 ds.length = true ∧ snO 3 9 ds = snB 3 9 ds := by
  have e := snK_yes (g := 3) (s := 9) (n := ds.length) (by omega) (by omega) (by omega) (by omega) (by omega)
  exact ⟨e, snO_yes e⟩
theorem name77 : (nm snapP 77).size ≤ 1048576 ∧ goOk (nm snapP 77) = true ∧ goV (nm snapP 77) = 77 := by
  obtain ⟨a, b⟩ := gb_of (p := snapP) (g := 77) (by omega) (by omega) rfl
  obtain ⟨c, d⟩ := go_yes_snap a
  refine ⟨?_, c, d.trans b⟩
  rw [nm_yes (by omega) (by omega), ByteArray.size_append]
  have := nt_len 77
  have e : snapP.size = 5 := rfl
  omega
theorem xor_byte (z q : Int) (h0 : 0 ≤ z) (h1 : z < 256) (q0 : 1 ≤ q) (q1 : q < 256) : 0 ≤ bits .xor .u8 z q ∧ bits .xor .u8 z q < 256 ∧ bits .xor .u8 z q ≠ z := by
  obtain ⟨a, rfl⟩ := Int.eq_ofNat_of_zero_le h0
  obtain ⟨b, rfl⟩ := Int.eq_ofNat_of_zero_le (show 0 ≤ q by omega)
  rw [u8_xor_nat a b (by omega) (by omega)]
  have hlt : a ^^^ b < 2 ^ 8 := Nat.xor_lt_two_pow (by omega) (by omega)
  refine ⟨by omega, by omega, fun h => ?_⟩
  have h2 : a ^^^ b = a := by omega
  have h3 := congrArg (fun t => a ^^^ t) h2
  simp only [← Nat.xor_assoc, Nat.xor_self, Nat.zero_xor] at h3
  omega

set_option maxRecDepth 100000 in
set_option maxHeartbeats 6400000 in
theorem law (a0 : Option Addr) (len0 cap0 : Nat) (z0 : List Int) (w : World) (w0 : IsRow .u8 w a0 len0 cap0 z0) (hf : Vars w) :
    Calls Tryd.prog 3 #[.slice a0 len0 cap0] w fun e w' => e = .returned (.bool true) ∧ Below w.heap.size w w' := by
  obtain ⟨HR, hl, hA, hrng⟩ := w0.open_
  have HV := Lib.hid hf
  clear w0 hf
  generalize z0.take len0 = zs at *
  by_cases hbig : len0 ≤ 1048576
  · have HL := Lib.hid hl
    have HN := Lib.hid name77
    have HSN := Lib.hid (fun W h => impl_SnapName_any 77 W h)
    have HGO := Lib.hid (fun W h1 h2 => impl_GenOf_any (nm snapP 77) name77.1 W h1 h2)
    rw [name77.2.1, name77.2.2] at HGO
    generalize nm snapP 77 = T77 at *
    clear hl hA
    go_enter Tryd.func3, Tryd.ntmps3
    go_wp2_with fail
    refine (Draw.make_any a0 len0 cap0 zs _ HR hrng HL.out (by omega)).mono ?_
    rintro e v1 ⟨A1, m, c1, ys, rfl, hm, ho1, hy, hx1⟩
    have hs1 := hx1.size
    have hl1 := ho1.len
    have HB1 := Lib.hid hx1
    have HO1 := Lib.hid ho1
    have HY := Lib.hid hy
    have HRB := Lib.hid (rb ys (by omega))
    have HL1 := Lib.hid hl1
    clear hx1 ho1 hy
    go_wp2_with fail
    refine (impl_SnapBytes_any A1 m c1 ys 3 9 _ (own_none HO1.out) HO1.out.rd HY.out HL1.out (by omega)).mono ?_
    rw [HRB.out.1, HRB.out.2]
    rintro e v2 ⟨A2, n2, c2, rfl, ho2, hx2⟩
    have hs2 := hx2.size
    have HB2 := Lib.hid (HB1.out.trans (hx2.mono hs1))
    have HO1b := Lib.hid (HO1.out.below (Nat.le_refl _) hx2)
    have HSR := Lib.hid (sn_read (g := 3) (s := 9) (d := ys) (by omega) (by omega) (by omega) (by omega) (by omega) HY.out)
    have HMO := Lib.hid (sn_more (g := 3) (s := 9) (d := ys) (r := [0]) (by omega) (by omega) (by omega) HY.out (fun z hz => by rw [List.mem_singleton] at hz; omega) (by decide))
    have HBT := Lib.hid (fun k hk v hv i hi hne => sn_bent (g := 3) (s := 9) (d := ys) (by omega) (by omega) (by omega) (by omega) (by omega) HY.out k hk v hv i hi hne)
    have HBR := Lib.hid (snB_rng 3 9 ys HY.out)
    have hbl := snB_len (g := 3) (s := 9) (ds := ys) (by omega) (by omega) (by omega)
    have hbm : ys.length < (snB 3 9 ys).length := by unfold snB shd s4; simp; omega
    generalize snB 3 9 ys = bs at *
    have hl2 := ho2.len
    have hc2 := ho2.cap
    have hn2 : n2 ≤ 64 := by omega
    have hmn : m < n2 := by omega
    have HO2 := Lib.hid ho2
    clear hx2 ho2 hbl hbm
    go_wp2_with fail
    refine (impl_SnapRead_any A2 n2 c2 bs _ HO2.out.rd HBR.out HO2.out.len (by omega) hc2 (HV.out.below HB2.out).2).mono ?_
    rw [HSR.out.1, HSR.out.2.1, HSR.out.2.2.1, HSR.out.2.2.2]
    rintro e v3 ⟨A3, n3, c3, rfl, ho3, hx3⟩
    have hs3 := hx3.size
    have hl3 := ho3.len
    have HB3 := Lib.hid (HB2.out.trans (hx3.mono HB2.out.size))
    have HO1c := Lib.hid (HO1b.out.below (Nat.le_refl _) hx3)
    have HO2c := Lib.hid (HO2.out.below (Nat.le_refl _) hx3)
    have HO3 := Lib.hid ho3
    clear hx3 ho3 HO1b
    have hown : Own (v3.alloc (.cells #[] 5)) v3.heap.size (some ⟨v3.heap.size, 0, none⟩) 0 0 [] := World.ownsRow_lit v3 #[] 0 (Nat.le_refl _) (by decide) rfl
    have hbw : Below v3.heap.size v3 (v3.alloc (.cells #[] 5)) := (Below.refl _ _).alloc (Nat.le_refl _) _
    have hr2 := HO2c.out.rd.below (Nat.le_refl _) hbw
    have hA2 := own_none HO2c.out
    have HBW := Lib.hid hbw
    clear hbw
    go_wp2_with (at_builtin; refine append_src rfl _ _ rfl rfl rfl hown hr2 hA2 hl2 (by omega) (by omega) (by simp) ?_)
    intro A4 c4 v4 ho4 hx4
    have HX4 := Lib.hid hx4
    have hz4 : v3.heap.size ≤ v4.heap.size := by have := hx4.size; simp at this; omega
    clear hown hr2 hx4
    go_wp2_with (at_builtin; refine append_byte rfl _ _ rfl rfl rfl ho4 (by omega) hz4 ?_)
    intro A5 c5 v5 ho5 hx5
    have HX5 := Lib.hid hx5
    clear ho4 hx5
    have HB45 := Lib.hid (HBW.out.trans (HX4.out.trans HX5.out))
    have HB5 := Lib.hid (HB3.out.trans (HB45.out.mono HB3.out.size))
    have HR5 := Lib.hid (show Rng (bs ++ [0]) from fun z hz => by
      rcases List.mem_append.1 hz with h | h
      · exact HBR.out z h
      · rw [List.mem_singleton] at h; omega)
    have hmo := sn_bad (zs := bs ++ [0]) (by rw [HMO.out]; omega)
    go_wp2_with fail
    refine (impl_SnapRead_any A5 (n2 + 1) c5 (bs ++ [0]) _ ho5.rd HR5.out ho5.len (by omega) ho5.cap (HV.out.below HB5.out).2).mono ?_
    rw [HMO.out, hmo.1, hmo.2.1, hmo.2.2]
    rintro e v6 ⟨A6, n6, c6, rfl, ho6, hx6⟩
    have hs6 := hx6.size
    have HB6 := Lib.hid (HB5.out.trans (hx6.mono HB5.out.size))
    have hx36 := (HB45.out.trans (hx6.mono HB45.out.size))
    have HO1d := Lib.hid (HO1c.out.below (Nat.le_refl _) hx36)
    have HO2d := Lib.hid (HO2c.out.below (Nat.le_refl _) hx36)
    have HO3d := Lib.hid (HO3.out.below (Nat.le_refl _) hx36)
    have hcv1 := conv_any HO3d.out.rd HO3d.out.len (own_none HO3d.out) v6 (fun _ _ h => h)
    have hcv3 := conv_any HO1d.out.rd HL1.out (own_none HO1d.out) v6 (fun _ _ h => h)
    have HR6 := Lib.hid (HR.below (Nat.le_refl _) HB6.out)
    clear hx6 ho6 ho5 hx36 hmo HMO HR5 HO1c HO2c HO3 HSR HO1 HB1 HB2 HB3 HB5 HB45 HBW HX4 HX5 HO2
    generalize strOfNums ys = YS at *
    by_cases hm0 : m = 0
    · subst hm0
      go_wp2_with fail
      refine (HSN.out _ (HV.out.below HB6.out).1.2).mono ?_
      rintro e u1 ⟨rfl, hu1⟩
      have HU1 := Lib.hid (HB6.out.trans (hu1.mono HB6.out.size))
      clear hu1
      go_wp2_with fail
      refine (HGO.out _ (HV.out.below HU1.out).1.1 (HV.out.below HU1.out).1.2).mono ?_
      rintro e u2 ⟨rfl, hu2⟩
      have HU2 := Lib.hid (HU1.out.trans (hu2.mono HU1.out.size))
      clear hu2
      go_wp2_with fail
      go_ret
      exact ⟨rfl, HU2.out⟩
    · have hm1 : 0 < (m : Int) := by omega
      clear hm0
      go_wp2_with fail
      obtain ⟨g, rfl, hg1, hg2⟩ := HO2d.out.head (by omega)
      have HW := Lib.hid ((Below.refl v6.heap.size v6).drew)
      have hwg : w.heap.size ≤ g := Nat.le_trans hs1 hg1
      have hs1 : IntKind.i64.wrap ((n2 : Int) - 1) = (n2 : Int) - 1 := IntWalk.i64_in _ (by omega)
      have HRW := Lib.hid (fun W (h : Below v6.heap.size v6 W) => ((HR6.out.below (Nat.le_refl _) (h.mono HB6.out.size)).more (Nat.le_trans HB6.out.size h.size)))
      clear hcv1 hcv3
      go_region_law (first
        | (go_simp; go_at_call 8; with_reducible refine (Draw.makeNum_any a0 len0 cap0 zs (m : Int) _ (HRW.out _ HW.out) hrng HL.out (by omega) (by omega) (by omega)).mono ?_; rintro e u ⟨x, rfl, hx0, hx1, hb⟩
           have HW' := Lib.hid (HW.out.trans (hb.mono HW.out.size))
           clear hb HW
           have HW := HW'
           clear HW'
           obtain ⟨y, rfl⟩ := Int.eq_ofNat_of_zero_le hx0
           obtain ⟨k, hk⟩ : ∃ k, n2 = k + 1 + y := ⟨n2 - 1 - y, by omega⟩
           have hk0 : (0 : Int) ≤ (k : Int) := by omega
           have hk1 : (k : Int) < (n2 : Int) := by omega
           have hs2 : IntKind.i64.wrap ((n2 : Int) - 1 - (y : Int)) = (k : Int) := by rw [IntWalk.i64_in _ (by omega)]; omega
           have HK := Lib.hid hk
           have HYM := Lib.hid (show y < m by omega)
           clear hk hx0 hx1
           have hcl := (HO2d.out.below (Nat.le_refl _) HW.out).spot (k := k) (by omega)
           obtain ⟨hc, hf⟩ := hcl)
        | (go_simp; go_at_call 8; with_reducible refine (Draw.makeNum_any a0 len0 cap0 zs 255 _ (HRW.out _ HW.out) hrng HL.out (by omega) (by omega) (by omega)).mono ?_; rintro e u ⟨q, rfl, hq0, hq1, hb⟩
           have HW' := Lib.hid (HW.out.trans (hb.mono HW.out.size))
           clear hb HW
           have HW := HW'
           clear HW'
           have hs3 : IntKind.i64.wrap (1 + q) = 1 + q := IntWalk.i64_in _ (by omega)
           have hs4 : IntKind.u8.wrap (1 + q) = 1 + q := by rw [IntKind.wrap_u8]; omega
           try (have hcl := (HO2d.out.below (Nat.le_refl _) HW.out).spot (k := k) (by omega); clear hc hf; obtain ⟨hc, hf⟩ := hcl)))
      all_goals
        have hkl : k < bs.length := by have := HO2d.out.len; have := HK.out; omega
        have hz := HBR.out _ (List.getElem_mem hkl)
        have hge : bs.getD k 0 = bs[k] := by simp [List.getD, hkl]
        rw [← hge] at hz
        have hx := xor_byte (bs.getD k 0) (1 + q) hz.1 hz.2 (by omega) (by omega)
        obtain ⟨v, hv⟩ : ∃ v, v = bits .xor .u8 (bs.getD k 0) (1 + q) := ⟨_, rfl⟩
        have hv' : bits .xor .u8 (bs[k]?.getD 0) (1 + q) = v := hv.symm
        rw [hv']
        rw [← hv] at hx
        have hst := ((HO2d.out.below (Nat.le_refl _) HW.out).stored k v).1
        have hb7 := (HB6.out.trans (HW.out.mono HB6.out.size)).setCell (p := ⟨g, k, none⟩) hwg (.int .u8 v)
        have h4 := HBT.out y (by rw [HL1.out]; exact HYM.out) v ⟨hx.1, hx.2.1⟩ k (by have := HO2d.out.len; have := HK.out; omega) hx.2.2
        have hgr : Rng (bs.set k v) := fun z hz => (List.mem_or_eq_of_mem_set hz).elim (HBR.out z) (fun e => by subst e; exact ⟨hx.1, hx.2.1⟩)
        clear hc hf hs2 hs3 hs4 hv hv' hz hge hx
        generalize u.setCell ⟨g, k, none⟩ (.int .u8 v) = v7 at *
        have hbad := sn_bad (zs := bs.set k v) (by rw [h4]; omega)
        have HB7 := Lib.hid hb7
        have H4 := Lib.hid h4
        have HST := Lib.hid hst
        have HGR := Lib.hid hgr
        have HBAD := Lib.hid hbad
        clear hb7 h4 hst hgr hbad
        go_wp2_with fail
        refine (impl_SnapRead_any (some ⟨g, 0, none⟩) n2 c2 (bs.set k v) _ HST.out.rd HGR.out HST.out.len (by omega) HST.out.cap (HV.out.below HB7.out).2).mono ?_
        rw [H4.out, HBAD.out.1, HBAD.out.2.1, HBAD.out.2.2]
        rintro e v8 ⟨A8, n8, c8, rfl, ho8, hx8⟩
        have HB8 := Lib.hid (HB7.out.trans (hx8.mono HB7.out.size))
        clear ho8 hx8
        go_wp2_with fail
        refine (HSN.out _ (HV.out.below HB8.out).1.2).mono ?_
        rintro e u1 ⟨rfl, hu1⟩
        have HU1 := Lib.hid (HB8.out.trans (hu1.mono HB8.out.size))
        clear hu1
        go_wp2_with fail
        refine (HGO.out _ (HV.out.below HU1.out).1.1 (HV.out.below HU1.out).1.2).mono ?_
        rintro e u2 ⟨rfl, hu2⟩
        have HU2 := Lib.hid (HU1.out.trans (hu2.mono HU1.out.size))
        clear hu2
        go_wp2_with fail
        go_ret
        exact ⟨rfl, HU2.out⟩
  · have hbig' : 1048576 < len0 := by omega
    go_enter Tryd.func3, Tryd.ntmps3
    go_wp2_with fail
    go_ret
    exact ⟨rfl, Below.refl _ _⟩
end Go.Proofs.YteiojpglhmikoaaDoor.SnapL

