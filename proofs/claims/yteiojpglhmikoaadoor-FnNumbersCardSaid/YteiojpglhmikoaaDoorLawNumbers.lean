/- FnNumbers: the walk of the law from the contracts of the program and of the draw; numbers and strings are read back from their encodings; at every input, no condition. -/
import Derived.Test.YteiojpglhmikoaaDoorRoundPlain
import Derived.Test.YteiojpglhmikoaaDoorPutImpl
import Derived.Test.YteiojpglhmikoaaDoorCrcImpl
import Derived.Test.YteiojpglhmikoaaDoorGetTextImpl
import Derived.Test.YteiojpglhmikoaaDoorTextImpl
import Derived.Test.YteiojpglhmikoaaDoorDrawMake
import Derived.Test.YteiojpglhmikoaaDoorTextCore
import Derived.Test.YteiojpglhmikoaaDoorTabs2
namespace Go.Proofs.YteiojpglhmikoaaDoor.Numbers
open Go.RowKit Go.Proofs.YteiojpglhmikoaaDoor.Bytes Go.Proofs.YteiojpglhmikoaaDoor.Var
set_option linter.unusedVariables false

set_option maxRecDepth 100000 in
theorem own_str {w : World} {base : Nat} {A : Option Addr} {n c : Nat} {zs : List Int} (h : Own w base A n c zs) :
    (convert 22 9 (.slice A n c)).run Tryd.prog w = .ok (.string (strOfNums zs)) w := by
  have hl := h.len
  rcases h.2 with ⟨hv, h0⟩ | ⟨g, cap, cur, hv, _⟩
  · injection hv with e1 e2 e3
    subst e1 e2 e3
    obtain rfl : zs = [] := List.eq_nil_of_length_eq_zero hl
    exact run_convert_bytes_nil w 22 5 Tryd.underlying22 Tryd.underlying5 0 0 9 Tryd.underlying9
  · injection hv with e1 e2 e3
    subst e1
    exact run_convert_bytes_arg w 22 5 Tryd.underlying22 Tryd.underlying5 g 0 n c zs hl (fun i hi => by rw [Nat.zero_add]; exact (h.spot hi).1) 9 Tryd.underlying9
theorem byt_str {zs : List Int} (h : Rng zs) : byt (strOfNums zs) = zs := by
  unfold byt
  rw [strOfNums_data, List.map_map]
  conv => rhs; rw [← List.map_id zs]
  refine List.map_congr_left fun z hz => ?_
  have := h z hz
  simp only [Function.comp, UInt8.toNat_ofNat', id]
  omega

set_option maxRecDepth 100000 in
set_option maxHeartbeats 4000000 in
theorem law (a0 : Option Addr) (len0 cap0 : Nat) (z0 : List Int) (w : World) (w0 : IsRow .u8 w a0 len0 cap0 z0) (hf : Num.ErrVars w ∧ Lib.TabIs Tryd.prog w "internal/strconv.uint64pow10" .u64 Lib.pow10Tab) :
    Calls Tryd.prog 4 #[.slice a0 len0 cap0] w fun e w' => e = .returned (.bool true) ∧ Below w.heap.size w w' := by
  obtain ⟨HR, hl, hA, hrng⟩ := w0.open_
  clear w0
  generalize z0.take len0 = cs at *
  have HE := Lib.hid hf.1
  have HT := Lib.hid hf.2
  clear hf
  by_cases hbig : len0 ≤ 1048576
  · have HL := Lib.hid hl
    clear hl hA
    go_enter Tryd.func4, Tryd.ntmps4
    go_wp2_with fail
    refine (Draw.make_any a0 len0 cap0 cs _ HR hrng HL.out (by omega)).mono ?_
    rintro e v1 ⟨A1, m, c1, zs, rfl, hm, ho1, hz, hb1⟩
    clear HR hrng HL
    have hs1 := hb1.size
    have hl1 := ho1.len
    go_wp2_with fail
    refine (Crc.impl_any A1 m c1 zs _ ho1.rd hz hl1 (by omega)).mono ?_
    rintro e v2 ⟨rfl, hx2⟩
    have hb2 := hb1.trans (hx2.mono hs1)
    have ho2 := ho1.below (Nat.le_refl _) hx2
    have hs2 := hb2.size
    obtain ⟨N, hN⟩ : ∃ N, N = 4294967295 - Crc.cf zs := ⟨_, rfl⟩
    rw [← hN]
    have hN4 : N ≤ 4294967295 := by omega
    clear hN ho1
    go_wp2_with fail
    refine (impl_PutVar_yes A1 m c1 zs N _ (own_none ho2) ho2.rd hl1 (by omega) hN4).mono ?_
    rintro e v3 ⟨A3, n3, c3, rfl, ho3, hx3⟩
    have hb3 := hb2.trans (hx3.mono hs2)
    have ho2b := ho2.below (Nat.le_refl _) hx3
    have hs3 := hb3.size
    have hl3 := ho3.len
    have hz3 : Rng (zs ++ vEnc N) := by
      intro z h
      rcases List.mem_append.1 h with h | h
      · exact hz z h
      · exact vEnc_rng (N + 1) N (by omega) z h
    have hn3 : n3 ≤ 45 := by
      rw [List.length_append, hl1] at hl3
      have := vEnc_len5 hN4
      omega
    have hrd := gv_round zs [] N hN4 hz (fun z h => by simp at h)
    rw [List.append_nil, hl1] at hrd
    have hrd3 : gvE (zs ++ vEnc N) (m : Int) = (n3 : Int) := by
      rw [hrd.2.2, ← hl3, List.length_append, hl1]
    have HRD := Lib.hid (show gvOk (zs ++ vEnc N) (m : Int) = true ∧ gvN (zs ++ vEnc N) (m : Int) = (N : Int) ∧ gvE (zs ++ vEnc N) (m : Int) = (n3 : Int) from ⟨hrd.1, hrd.2.1, hrd3⟩)
    clear ho2 hrd hrd3
    have HL1 := Lib.hid hl1
    have HL3 := Lib.hid hl3
    clear hl1 hl3
    go_wp2_with fail
    refine (impl_GetVar_any A3 n3 c3 (zs ++ vEnc N) (m : Int) _ ho3.rd hz3 HL3.out (by omega)).mono ?_
    rintro e v4 ⟨he, rfl⟩
    unfold gvRet at he
    rw [HRD.out.1, HRD.out.2.1, HRD.out.2.2] at he
    subst he
    have hcv := own_str ho2b
    go_wp2_with fail
    refine (impl_PutText_any A3 n3 c3 (zs ++ vEnc N) (strOfNums zs) _ (own_none ho3) ho3.rd HL3.out (by omega) (by rw [strOfNums_size]; unfold maxLen; have := HL1.out; omega)).mono ?_
    rintro e v5 ⟨A5, n5, c5, rfl, ho5, hx5⟩
    have hb5 := hb3.trans (hx5.mono hs3)
    have ho2c := ho2b.below (Nat.le_refl _) hx5
    have hs5 := hb5.size
    have hsz : (strOfNums zs).size = m := by rw [strOfNums_size]; exact HL1.out
    have hB : ptB (strOfNums zs) = true := decide_eq_true (by omega)
    have hO : ptO (zs ++ vEnc N) (strOfNums zs) = (zs ++ vEnc N) ++ vEnc m ++ zs := by
      unfold ptO; rw [if_pos (by omega), hsz, byt_str hz]
    rw [hO] at ho5
    rw [hB]
    have hl5 := ho5.len
    have hz5 : Rng ((zs ++ vEnc N) ++ vEnc m ++ zs) := by
      intro z h
      rcases List.mem_append.1 h with h | h
      · rcases List.mem_append.1 h with h | h
        · exact hz3 z h
        · exact vEnc_rng (m + 1) m (by omega) z h
      · exact hz z h
    have hgt := gv_round (zs ++ vEnc N) zs m (by omega) hz3 hz
    rw [HL3.out] at hgt
    have hfull : n3 + (vEnc m).length + m = n5 := by
      rw [← hl5, List.length_append, List.length_append, HL3.out, HL1.out]
    have hgr := gtRet_yes hgt.1 hgt.2.1 hgt.2.2 (by omega) (by rw [List.length_append, List.length_append, HL3.out, HL1.out]; omega)
    have hdrop : (((zs ++ vEnc N) ++ vEnc m ++ zs).drop (n3 + (vEnc m).length)).take m = zs := by
      rw [← HL3.out, ← List.length_append, List.drop_left, ← HL1.out, List.take_length]
    rw [hdrop, show (((n3 + (vEnc m).length : Nat) : Int) + (m : Int)) = (n5 : Int) by omega] at hgr
    have HGR := Lib.hid hgr
    have hn5 : n5 ≤ 100 := by have := vEnc_len5 (n := m) (by omega); omega
    have HL5 := Lib.hid hl5
    clear hgr hgt hdrop hfull hO hB hsz hl5 ho2b hcv
    go_wp2_with fail
    refine (impl_GetText_any A5 n5 c5 _ (n3 : Int) _ ho5.rd hz5 HL5.out (by omega) ho5.cap).mono ?_
    rintro e v6 ⟨he, rfl⟩
    rw [← HGR.out] at he
    subst he
    go_wp2_with fail
    refine (Num.impl_nt (N : Int) _ (Num.var_below hb5 HT.out)).mono ?_
    rintro e v7 ⟨rfl, hx7⟩
    have hb7 := hb5.trans (hx7.mono hs5)
    have ho2d := ho2c.below (Nat.le_refl _) hx7
    have hs7 := hb7.size
    have hnt : Num.nt (N : Int) = Num.dg N := by unfold Num.nt; rw [if_pos ⟨by omega, by omega⟩, Int.toNat_natCast]
    have htn := Num.tn_of (l := (Num.dg N).data.toList) hN4 rfl
    have hdz : (Num.dg N).size ≤ 1048576 := by have := Num.dg_len10 hN4; omega
    rw [hnt]
    have hti := Num.impl_TextNum (Num.dg N) hdz _ (HE.out.below hb7) (Num.var_below hb7 HT.out)
    rw [htn.1, Num.tnV_yes htn.1, htn.2] at hti
    have HTI := Lib.hid hti
    clear hnt htn hti ho2c
    go_wp2_with fail
    refine HTI.out.mono ?_
    rintro e v8 ⟨rfl, hx8⟩
    have hb8 := hb7.trans (hx8.mono hs7)
    have ho2e := ho2d.below (Nat.le_refl _) hx8
    have hcv := own_str ho2e
    clear ho2d
    go_wp2_with fail
    go_ret
    exact ⟨rfl, hb8⟩
  · have hbig' : 1048576 < len0 := by omega
    go_enter Tryd.func4, Tryd.ntmps4
    go_wp2_with fail
    go_ret
    exact ⟨rfl, Below.refl _ _⟩
end Go.Proofs.YteiojpglhmikoaaDoor.Numbers

