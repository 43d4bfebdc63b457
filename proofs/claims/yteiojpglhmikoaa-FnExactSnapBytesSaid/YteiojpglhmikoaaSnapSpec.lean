/- Contracts of the writing of a snapshot, in the model. -/
import Derived.Test.YteiojpglhmikoaaSnapImpl
import Derived.Test.YteiojpglhmikoaaPutVar
import Derived.Test.YteiojpglhmikoaaCrc
namespace Go.Proofs.Yteiojpglhmikoaa.Snap
open Go.RowKit Go.Proofs.Yteiojpglhmikoaa.Bytes Go.Proofs.Yteiojpglhmikoaa.Var Go.Proofs.Yteiojpglhmikoaa.Crc Go.Proofs.Yteiojpglhmikoaa.Frame
set_option linter.unusedVariables false

set_option maxRecDepth 100000 in
set_option maxHeartbeats 1600000 in
theorem spec_yes (A : Option Addr) (n c : Nat) (zs : List Int) (u s : Nat) (w : World) (hA : A = none → n = 0 ∧ c = 0) (hr : Rd w w.heap.size A zs) (hg : Rng zs) (hl : zs.length = n) (hn : n ≤ 150000) (a0 : 1 ≤ u) (a1 : u ≤ 1000000000) (h0 : 1 ≤ s) (h1 : s ≤ 1000000000) :
    Calls Try.prog 26 #[.int .i64 u, .int .i64 s, .slice A n c] w fun e w' => ∃ A' n' c', e = .returned (.tuple #[.slice A' n' c', .bool true]) ∧ Own w' w.heap.size A' n' c' (snB u s zs) ∧ Below w.heap.size w w' := by
  have HL := Lib.hid hl
  have HA := Lib.hid hA
  have HR := Lib.hid hr
  have HGD := Lib.hid hg
  clear hl hA hr hg
  have HRS := Lib.hid (rd_s4 w)
  have hb0 : Below w.heap.size w (w.alloc head4) := (Below.refl w.heap.size w).alloc (Nat.le_refl _) head4
  have HB0 := Lib.hid hb0
  have hcv := conv_s4
  clear hb0
  go_enter Try.func26, Try.ntmps26
  go_wp2_with fail
  refine (spec_PutVar_yes _ 4 4 s4 u _ (by intro h; cases h) (HRS.out.more (by simp)) rfl (by omega) (by omega)).mono ?_
  rintro e v1 ⟨B1, m1, d1, rfl, po1, px1⟩
  have pb1 := HB0.out.trans (px1.mono HB0.out.size)
  have ps1 := pb1.size
  have pl1 := po1.len
  have pv1 := vEnc_len5 (n := u) (by omega)
  have pn1 : m1 ≤ 9 := by rw [List.length_append] at pl1; simp [s4] at pl1; omega
  have PO1 := Lib.hid po1
  have PB1 := Lib.hid pb1
  clear po1 px1 pb1 pl1 pv1
  go_wp2_with fail
  refine (spec_PutVar_yes B1 m1 d1 _ s _ (own_none PO1.out) PO1.out.rd PO1.out.len (by omega) (by omega)).mono ?_
  rintro e w1 ⟨A1, n1, c1, rfl, ho1, hx1⟩
  have hb1 := PB1.out.trans (hx1.mono ps1)
  have hs1 := hb1.size
  have hl1 := ho1.len
  have hv1 := vEnc_len5 (n := s) (by omega)
  have hn1 : n1 ≤ 14 := by rw [List.length_append, PO1.out.len] at hl1; omega
  have HO1 := Lib.hid ho1
  have HB1 := Lib.hid hb1
  clear ho1 hx1 hb1 hl1 hv1
  go_wp2_with fail
  refine (spec_PutVar_yes A1 n1 c1 _ n _ (own_none HO1.out) HO1.out.rd HO1.out.len (by omega) (by omega)).mono ?_
  rintro e w2 ⟨A2, n2, c2, rfl, ho2, hx2⟩
  have hb2 := HB1.out.trans (hx2.mono hs1)
  have hs2 := hb2.size
  have e2 : s4 ++ vEnc u ++ vEnc s ++ vEnc n = shd u s zs.length := by rw [HL.out]; rfl
  rw [e2] at ho2
  have hl2 := ho2.len
  have hv2 := shd_len (g := u) (s := s) (n := zs.length) (by omega) (by omega) (by rw [HL.out]; exact hn)
  have hn2 : n2 ≤ 19 := by omega
  have hr2 := HR.out.below (Nat.le_refl _) hb2
  have ho2' := ho2.more (Nat.le_trans hs1 (Nat.le_refl _))
  have hle2 := ho2.cap
  have HO2 := Lib.hid ho2'
  have HB2 := Lib.hid hb2
  have HR2 := Lib.hid hr2
  have HHG := Lib.hid (shd_rng u s zs.length)
  have hown3 : Own (w2.alloc (.cells #[] 5)) w2.heap.size (some ⟨w2.heap.size, 0, none⟩) 0 0 [] := World.ownsRow_lit w2 #[] 0 (Nat.le_refl _) (by decide) rfl
  have hb3 : Below w2.heap.size w2 (w2.alloc (.cells #[] 5)) := (Below.refl _ _).alloc (Nat.le_refl _) _
  have hr3 : Rd (w2.alloc (.cells #[] 5)) w2.heap.size A2 (shd u s zs.length) := ho2.rd.below (Nat.le_refl _) hb3
  have hA2 := own_none ho2
  have HB3 := Lib.hid hb3
  clear ho2 ho2' hx2 hb2 e2 hr2 hb3
  go_wp2_with (at_builtin; refine append_src rfl _ _ rfl rfl rfl hown3 hr3 hA2 hl2 (by omega) (by omega) (by simp) ?_)
  intro A3 c3 w3 ho3 hx3
  have hb3 := HB3.out.trans hx3
  have hs3 := hb3.size
  have hr4 := (HR2.out.more hs2).below (Nat.le_refl _) hb3
  have HB4 := Lib.hid hb3
  have hA3 := own_none ho3
  clear hown3 hr3 hx3 hb3
  go_wp2_with (at_builtin; refine append_src rfl _ _ rfl rfl rfl ho3 hr4 HA.out HL.out (by omega) (by omega) (by omega) ?_)
  intro A5 c5 w5 ho5 hx5
  have hb5 := HB4.out.trans hx5
  have hs5 := hb5.size
  have HO5 := Lib.hid ho5
  have HB5 := Lib.hid hb5
  have hln : (shd u s zs.length ++ zs).length = n2 + n := by rw [List.length_append, hl2, HL.out]
  have HLN := Lib.hid hln
  have HG5 := Lib.hid (show Rng (shd u s zs.length ++ zs) from fun z hz => (List.mem_append.1 hz).elim (HHG.out z) (HGD.out z))
  clear ho3 hr4 ho5 hx5 hb5 hln hA3
  go_wp2_with fail
  refine (Crc.spec_any A5 _ c5 _ _ HO5.out.rd HG5.out HLN.out (by omega)).mono ?_
  rintro e w6 ⟨rfl, rfl⟩
  have hk := crcN_le (shd u s zs.length ++ zs)
  obtain ⟨K, hK⟩ : ∃ K, K = crcN (shd u s zs.length ++ zs) := ⟨_, rfl⟩
  have hK' : 4294967295 - cf (shd u s zs.length ++ zs) = K := hK.symm
  rw [← hK] at hk
  rw [hK']
  have HK := Lib.hid hK
  have HO6 := Lib.hid (HO2.out.below (Nat.le_refl _) HB5.out)
  have hA6 := own_none HO6.out
  clear hK hK'
  go_wp2_with fail
  refine (spec_PutVar_yes A2 n2 c2 _ K _ hA6 HO6.out.rd HO6.out.len (by omega) hk).mono ?_
  rintro e w7 ⟨A7, n7, c7, rfl, ho7, hx7⟩
  have hb7 := HB2.out.trans ((HB5.out.mono hs2).trans (hx7.mono (Nat.le_trans hs2 hs5)))
  have hl7 := ho7.len
  have hv7 := vEnc_len5 hk
  have hn7 : n7 ≤ 24 := by rw [List.length_append, HO6.out.len] at hl7; omega
  have hr7 := HR.out.below (Nat.le_refl _) hb7
  have ho7' := ho7.more (Nat.le_trans hs2 hs5)
  have hs7 := hb7.size
  have HB7 := Lib.hid hb7
  clear ho7 hx7 hb7 hl7 hv7
  go_wp2_with (at_builtin; refine append_src rfl _ _ rfl rfl rfl ho7' hr7 HA.out HL.out (by omega) (by omega) (by omega) ?_)
  intro A8 c8 w8 ho8 hx8
  have e8 : shd u s zs.length ++ (vEnc K ++ zs) = snB u s zs := by unfold snB; rw [← HK.out]
  rw [e8] at ho8
  have HO8 := Lib.hid ho8
  have HB8 := Lib.hid (HB7.out.trans hx8)
  clear ho7' hr7 ho8 hx8 e8
  go_wp2_with fail
  go_ret2
  exact ⟨_, _, _, rfl, HO8.out, HB8.out⟩

set_option maxRecDepth 100000 in
set_option maxHeartbeats 800000 in
theorem spec_no (A : Option Addr) (n c : Nat) (u s : Int) (w : World) (h : u < 1 ∨ 1000000000 < u ∨ s < 1 ∨ 1000000000 < s ∨ 150000 < n) (hm : n ≤ 1099511627776) :
    Calls Try.prog 26 #[.int .i64 u, .int .i64 s, .slice A n c] w fun e w' => e = .returned (.tuple #[.slice none 0 0, .bool false]) ∧ w = w' := by
  by_cases q0 : u < 1
  · clear h
    go_enter Try.func26, Try.ntmps26
    go_wp2_with fail
    go_ret2
    exact ⟨rfl, rfl⟩
  have p0 : 1 ≤ u := by omega
  clear q0
  by_cases q1 : 1000000000 < u
  · clear h
    go_enter Try.func26, Try.ntmps26
    go_wp2_with fail
    go_ret2
    exact ⟨rfl, rfl⟩
  have p1 : u ≤ 1000000000 := by omega
  clear q1
  by_cases q2 : s < 1
  · clear h
    go_enter Try.func26, Try.ntmps26
    go_wp2_with fail
    go_ret2
    exact ⟨rfl, rfl⟩
  have p2 : 1 ≤ s := by omega
  clear q2
  by_cases q3 : 1000000000 < s
  · clear h
    go_enter Try.func26, Try.ntmps26
    go_wp2_with fail
    go_ret2
    exact ⟨rfl, rfl⟩
  have p3 : s ≤ 1000000000 := by omega
  clear q3
  have q4 : 150000 < n := by omega
  clear h
  go_enter Try.func26, Try.ntmps26
  go_wp2_with fail
  go_ret2
  exact ⟨rfl, rfl⟩

theorem spec_SnapBytes_any (A : Option Addr) (n c : Nat) (zs : List Int) (u s : Int) (w : World) (hA : A = none → n = 0 ∧ c = 0) (hr : Rd w w.heap.size A zs) (hg : Rng zs) (hl : zs.length = n) (hn : n ≤ 1099511627776) :
    Calls Try.prog 26 #[.int .i64 u, .int .i64 s, .slice A n c] w fun e w' => ∃ A' n' c', e = .returned (.tuple #[.slice A' n' c', .bool (snK u s zs.length)]) ∧ Own w' w.heap.size A' n' c' (snO u s zs) ∧ Below w.heap.size w w' := by
  by_cases h : 1 ≤ u ∧ u ≤ 1000000000 ∧ 1 ≤ s ∧ s ≤ 1000000000 ∧ n ≤ 150000
  · obtain ⟨k, rfl⟩ := Int.eq_ofNat_of_zero_le (show 0 ≤ s by omega)
    obtain ⟨g, rfl⟩ := Int.eq_ofNat_of_zero_le (show 0 ≤ u by omega)
    have e1 := snK_yes h.1 h.2.1 h.2.2.1 h.2.2.2.1 (n := zs.length) (by omega)
    rw [e1, snO_yes e1, Int.toNat_natCast, Int.toNat_natCast]
    exact spec_yes A n c zs g k w hA hr hg hl h.2.2.2.2 (by omega) (by omega) (by omega) (by omega)
  · have e1 := snK_no (g := u) (s := s) (n := zs.length) (by omega)
    rw [e1, snO_no e1]
    refine (spec_no A n c u s w (by omega) hn).mono ?_
    rintro e w' ⟨rfl, rfl⟩
    exact ⟨none, 0, 0, rfl, own_nil _ _, Below.refl _ _⟩
end Go.Proofs.Yteiojpglhmikoaa.Snap

