/- Contract of the reading of a file, in the program. -/
import Derived.Test.YtckiloacbanbmaaDoorReadMath
import Derived.Test.YtckiloacbanbmaaDoorFileWith
import Derived.Test.YtckiloacbanbmaaDoorImplOk
namespace Go.Proofs.YtckiloacbanbmaaDoor.DOk
open Go.RowKit Go.Proofs.YtckiloacbanbmaaDoor.Bytes Go.Proofs.YtckiloacbanbmaaDoor.Rows_ Go.Maps
set_option linter.unusedVariables false
theorem vI_inj {a b : Int} (h : vI a = vI b) : a = b := by unfold vI at h; injection h with h; injection h
/-- what reading a file answers -/
def AnsRead (P : Prop) (fs : List FileD) (l : List LinkD) (s : List UInt8) (w : World) (e : Ending) (w' : World) : Prop :=
  ∃ zs o A c, e = .returned (.tuple #[.slice A zs.length c, .bool o]) ∧ ReadD P fs l s zs o ∧ Own w' w.heap.size A zs.length c zs ∧ Below w.heap.size w w'
theorem AnsRead.no {P : Prop} {fs : List FileD} {l : List LinkD} {s : List UInt8} {w w' : World} (h : ¬ (P ∧ InN l s)) (hb : Below w.heap.size w w') : AnsRead P fs l s w (.returned (.tuple #[.slice none 0 0, .bool false])) w' :=
  ⟨[], false, none, 0, rfl, .inr ⟨h, rfl, rfl⟩, own_nil _ _, hb⟩

set_option maxRecDepth 100000 in
set_option maxHeartbeats 3200000 in
theorem impl_DiskRead_any (room fuse next : Int) (F : Option Addr) (nf cf : Nat) (K : Option Addr) (nk ck : Nat) (T : Option Addr) (nt ct : Nat) (fs : List FileD) (ks : List LinkD) (ts : List TurnD) (s : ByteArray) (hs : s.size ≤ maxLen) (w : World)
    (hf : RdF w w.heap.size F fs) (hfl : fs.length = nf) (hfn : nf ≤ 2000000) (hrb : RdB w w.heap.size fs) (hba : ∀ f ∈ fs, f.A = none → f.n = 0 ∧ f.c = 0) (hfs : ∀ x ∈ fs, (Lit.int .i64 x.id).wf = true) (hu : usedD fs ≤ 1099511627776)
    (hk : RdL w w.heap.size K ks) (hkl : ks.length = nk) (hkn : nk ≤ 2000000) (hks : ∀ x ∈ ks, x.1.size ≤ maxLen ∧ (Lit.int .i64 x.2).wf = true)
    (ht : RdT w w.heap.size T ts) (htl : ts.length = nt) (htn : nt ≤ 2000000) (hts : ∀ x ∈ ts, x.name.size ≤ maxLen ∧ x.to_.size ≤ maxLen ∧ (Lit.int .i64 x.id).wf = true) :
    Calls Tryd.prog 38 #[.agg #[.int .i64 room, .int .i64 fuse, .int .i64 next, .slice F nf cf, .slice K nk ck, .slice T nt ct], .string s] w (AnsRead (OkS room fuse next fs ks ts) fs (dirAt ks ts) s.toList w) := by
  have hx0 := Lib.hid (Box6.new w (.int .i64 room) (.int .i64 fuse) (.int .i64 next) (.slice F nf cf) (.slice K nk ck) (.slice T nt ct) 35)
  have hb0 := Lib.hid ((Below.refl w.heap.size w).alloc (Nat.le_refl _) (.cells #[.int .i64 room, .int .i64 fuse, .int .i64 next, .slice F nf cf, .slice K nk ck, .slice T nt ct] 35))
  have HOk := Lib.hid (fun W (h : Below w.heap.size w W) => implOk_any room fuse next F nf cf K nk ck T nt ct fs ks ts W ((hf.below (Nat.le_refl _) h).more h.size) hfl hfn hfs hu ((hk.below (Nat.le_refl _) h).more h.size) hkl hkn hks ((ht.below (Nat.le_refl _) h).more h.size) htl htn hts)
  have HDir := Lib.hid (fun W (h : Below w.heap.size w W) => directoryOf_any K nk ck T nt ct ks ts W ((hk.below (Nat.le_refl _) h).more h.size) hkl hkn hks ((ht.below (Nat.le_refl _) h).more h.size) htl htn hts)
  have HF := Lib.hid hf
  have HFL := Lib.hid hfl
  have HRB := Lib.hid hrb
  have HBA := Lib.hid hba
  have HU := Lib.hid hu
  have hk1 := Lib.hid (keyS hs)
  clear hf hfl hrb hba hfs hu hk hkl hks ht htl hts hs
  go_enter Tryd.func38, Tryd.ntmps38
  go_wp2_with fail
  refine (HOk.out _ hb0.out).mono ?_
  rintro e v1 ⟨b, rfl, hv, hb1⟩
  have s1 : w.heap.size < v1.heap.size := by have := hb1.size; simp at this; omega
  have HB1 := Lib.hid (hb0.out.trans (hb1.mono (by simp)))
  have HX1 := Lib.hid (hx0.out.below hb1 (by simp))
  have HV := Lib.hid (hv.trans (ok_iff room fuse next fs ks ts).symm)
  clear hb1 hv hx0 hb0 HOk
  cases b
  · have HN := Lib.hid (show ¬ (OkS room fuse next fs ks ts ∧ InN (dirAt ks ts) s.toList) from fun h => by have := HV.out.2 h.1; cases this)
    clear HV
    go_wp2_with fail
    go_ret2
    exact AnsRead.no HN.out HB1.out
  · have HP := Lib.hid (HV.out.1 rfl)
    obtain ⟨q0, q1, q2, q3, q4, q5⟩ := HX1.out
    clear HV
    go_wp2_with fail
    refine (HDir.out _ HB1.out).mono ?_
    rintro e v2 ⟨rfl, ho2, hb2⟩
    have s2 : w.heap.size < v2.heap.size := by have := hb2.size; omega
    have HO2 := Lib.hid ho2
    have HB2 := Lib.hid (HB1.out.trans (hb2.mono (Nat.le_of_lt s1)))
    have HX2 := Lib.hid (HX1.out.below hb2 s1)
    have HHas := Lib.hid ((okS_parts HP.out).1.2.1 s)
    have HVal := Lib.hid (fun h => Val.find (okS_parts HP.out).2.1 (s := s) h)
    clear ho2 hb2 q0 q1 q2 q3 q4 q5 HX1 HB1
    obtain ⟨q0, q1, q2, q3, q4, q5⟩ := HX2.out
    generalize hh : has (dirM ks ts) (kS s) = h at *
    have HH := Lib.hid hh
    clear hh
    cases h
    · have HN := Lib.hid (show ¬ (OkS room fuse next fs ks ts ∧ InN (dirAt ks ts) s.toList) from fun h => by have := HHas.out.2 h.2; cases this)
      clear HHas HVal
      go_wp2_with (at_lookup; refine wpList_lookup_own_ok_int _ rfl _ _ 91 rfl 9 3 .i64 skey Tryd.underlying91 Tryd.underlying3 (zeroI _) v1.heap.size (nk + nt) (dirM ks ts) rfl HO2.out _ _ rfl hk1.out ?_)
      intro c hat hwc
      rw [HH.out]
      clear hat hwc
      go_wp2_with fail
      go_ret2
      exact AnsRead.no HN.out HB2.out
    · have HIN := Lib.hid (HHas.out.1 rfl)
      obtain ⟨i0, hi, he, hno⟩ := file_of HP.out HIN.out
      have h10 : nf ≤ 10 := by have := HP.out.2.1; rw [HFL.out] at this; exact this
      have HVal2 := Lib.hid (HVal.out HIN.out)
      have HID := Lib.hid he
      have HNO := Lib.hid hno
      clear HHas HVal he hno
      go_wp2_with (at_lookup; refine wpList_lookup_own_ok_int _ rfl _ _ 91 rfl 9 3 .i64 skey Tryd.underlying91 Tryd.underlying3 (zeroI _) v1.heap.size (nk + nt) (dirM ks ts) rfl HO2.out _ _ rfl hk1.out ?_)
      intro c hat hwc
      rw [HH.out]
      have HC := Lib.hid (show c = findD (dirAt ks ts) s.toList from vI_inj (hat.symm.trans HVal2.out))
      clear hat hwc
      obtain ⟨b, o, rfl, hB, _, _, _⟩ := (HF.out.below (Nat.le_refl _) HB2.out).at_ hi
      have HFW := Lib.hid (fileWith_hit b o nf cf fs c i0 v2 ((HF.out.below (Nat.le_refl _) HB2.out).more HB2.out.size) HFL.out (by omega) hi (fun j hj hlt => by rw [HC.out]; exact HNO.out j hj hlt) (by rw [HC.out]; exact HID.out))
      go_wp2_with fail
      refine HFW.out.mono ?_
      rintro e v3 ⟨rfl, hb3⟩
      have HB3 := Lib.hid (HB2.out.trans (hb3.mono (Nat.le_of_lt s2)))
      obtain ⟨b', o', e0, hB', c0, c1, c2⟩ := (HF.out.below (Nat.le_refl _) HB3.out).at_ hi
      injection e0 with e0
      injection e0 with e1 e2
      subst e1 e2
      have HR := Lib.hid (show Rd v3 v3.heap.size fs[i0].A fs[i0].bytes from ((HRB.out _ (List.getElem_mem hi)).1.below (Nat.le_refl _) HB3.out).more HB3.out.size)
      have HRl := Lib.hid (HRB.out _ (List.getElem_mem hi)).2
      have HRA := Lib.hid (HBA.out _ (List.getElem_mem hi))
      have HRn := Lib.hid (Nat.le_trans (n_used (List.getElem_mem hi)) HU.out)
      have HZ := Lib.hid (show ReadD (OkS room fuse next fs ks ts) fs (dirAt ks ts) s.toList fs[i0].bytes true from .inl ⟨HP.out, HIN.out, ⟨i0, hi, HID.out, HNO.out, rfl⟩, rfl⟩)
      clear hb3 c0 c2 HNO HID HFW q0 q1 q2 q3 q4 q5
      generalize fs[i0].bytes = zs at *
      generalize fs[i0].A = x1 at *
      generalize fs[i0].n = x2 at *
      generalize fs[i0].c = x3 at *
      go_wp2_with fail
      refine (Var.clone_any x1 x2 x3 zs _ HRA.out HR.out HRl.out HRn.out).mono ?_
      rintro e v4 ⟨A4, c4, rfl, ho4, hb4⟩
      have s3 : w.heap.size ≤ v3.heap.size := HB3.out.size
      have HO4 := Lib.hid (show Own v4 w.heap.size A4 zs.length c4 zs by rw [HRl.out]; exact ho4.more s3)
      have HB4 := Lib.hid (HB3.out.trans (hb4.mono s3))
      clear ho4 hb4 c1
      go_wp2_with fail
      go_ret2
      exact ⟨zs, true, A4, c4, by rw [HRl.out]; rfl, HZ.out, HO4.out, HB4.out⟩
end Go.Proofs.YtckiloacbanbmaaDoor.DOk
