/- Contract of the reading of a file, in the model. -/
import Derived.Test.YtckiloacbanbmaaDoorReadImpl
import Derived.Deep.RegionHeld3
import Derived.Deep.RegionLaw
import Derived.Deep.AppendLies
namespace Go.Proofs.YtckiloacbanbmaaDoor.DOk
open Go.RowKit Go.Proofs.YtckiloacbanbmaaDoor.Bytes Go.Proofs.YtckiloacbanbmaaDoor.Rows_ Go.Maps
set_option linter.unusedVariables false
theorem undrew {W v : World} {B : Nat} (h : Below B W.drew v) : Below B W v := ⟨h.os, h.tape, h.output, h.size, h.block⟩
theorem alloc_le (v : World) (o : Obj) : v.heap.size ≤ (v.alloc o).heap.size := by simp
theorem find_none {l : List LinkD} {s : List UInt8} (h : ¬ InN l s) : findD l s = 0 :=
  findD_miss l s fun j hj => by
    cases he : (l[j].1.toList == s)
    · rfl
    · exact absurd ⟨l[j], List.getElem_mem hj, by simpa using he⟩ h

set_option maxRecDepth 100000 in
set_option maxHeartbeats 24000000 in
theorem spec_DiskRead_any (room fuse next : Int) (F : Option Addr) (nf cf : Nat) (K : Option Addr) (nk ck : Nat) (T : Option Addr) (nt ct : Nat) (fs : List FileD) (ks : List LinkD) (ts : List TurnD) (s : ByteArray) (w : World)
    (hf : RdF w w.heap.size F fs) (hfl : fs.length = nf) (hrb : RdB w w.heap.size fs) (hba : ∀ f ∈ fs, f.A = none → f.n = 0 ∧ f.c = 0) (hu : usedD fs ≤ 1099511627776)
    (hk : RdL w w.heap.size K ks) (hkl : ks.length = nk) (hKA : K = none → nk = 0 ∧ ck = 0) (hks : ∀ x ∈ ks, x.1.size ≤ maxLen)
    (ht : RdT w w.heap.size T ts) (htl : ts.length = nt) (hts : ∀ x ∈ ts, x.name.size ≤ maxLen ∧ x.to_.size ≤ maxLen) :
    Calls Tryd.prog 11 #[.agg #[.int .i64 room, .int .i64 fuse, .int .i64 next, .slice F nf cf, .slice K nk ck, .slice T nt ct], .string s] w (AnsRead (OkS room fuse next fs ks ts) fs (dirAt ks ts) s.toList w) := by
  have hx0 := Lib.hid (Box6.new w (.int .i64 room) (.int .i64 fuse) (.int .i64 next) (.slice F nf cf) (.slice K nk ck) (.slice T nt ct) 35)
  have hb0 := Lib.hid ((Below.refl w.heap.size w).alloc (Nat.le_refl _) (.cells #[.int .i64 room, .int .i64 fuse, .int .i64 next, .slice F nf cf, .slice K nk ck, .slice T nt ct] 35))
  have HDir := Lib.hid (fun W (h : Below w.heap.size w W) => spec_DiskDir_any room fuse next F nf cf K nk ck T nt ct fs ks ts W ((hf.below (Nat.le_refl _) h).more h.size) hfl hu ((hk.below (Nat.le_refl _) h).more h.size) hkl hKA hks ((ht.below (Nat.le_refl _) h).more h.size) htl hts)
  have HAt := Lib.hid (fun W (h : Below w.heap.size w W) id i0 (hn : nf ≤ 2000) hi hno hyes => l02At_hit room fuse next F nf cf K nk ck T nt ct fs id i0 W ((hf.below (Nat.le_refl _) h).more h.size) hfl hn hi hno hyes)
  have HF := Lib.hid hf
  have HFL := Lib.hid hfl
  have HRB := Lib.hid hrb
  have HBA := Lib.hid hba
  have HU := Lib.hid hu
  clear hf hfl hrb hba hu hk hkl hKA hks ht htl hts
  go_enter Tryd.func11, Tryd.ntmps11
  go_wp2_with fail
  refine (HDir.out _ hb0.out).mono ?_
  rintro e v1 ⟨hcase, hb1⟩
  have s1 : w.heap.size < v1.heap.size := by have := hb1.size; simp at this; omega
  have HB1 := Lib.hid (hb0.out.trans (hb1.mono (by simp)))
  have HX1 := Lib.hid (hx0.out.below hb1 (by simp))
  clear hb1 hx0 hb0 HDir
  rcases hcase with ⟨hP, A1, c1, rfl, ho1, hl1⟩ | ⟨hN, rfl⟩
  · have HFi := Lib.hid (l02Find_any A1 (dirAt ks ts).length c1 (dirAt ks ts) s v1 ho1.rd rfl (by omega))
    have HP := Lib.hid hP
    clear hP ho1
    go_wp2_with fail
    refine HFi.out.mono ?_
    rintro e v2 ⟨rfl, hb2⟩
    have s2 : w.heap.size < v2.heap.size := by have := hb2.size; omega
    have HB2 := Lib.hid (HB1.out.trans (hb2.mono (Nat.le_of_lt s1)))
    have HX2 := Lib.hid (HX1.out.below hb2 s1)
    clear hb2 HB1 HX1 HFi
    by_cases hin : InN (dirAt ks ts) s.toList
    · have HIN := Lib.hid hin
      clear hin
      obtain ⟨i0, hi, he, hno⟩ := file_of HP.out HIN.out
      have h10 : nf ≤ 10 := by have := HP.out.2.1; rw [HFL.out] at this; exact this
      have hi' : i0 < nf := by have := HFL.out; omega
      have HID := Lib.hid he
      have HNO := Lib.hid hno
      have hpos := (find_pos (dirAt ks ts) s.toList (okS_parts HP.out).1.2.2).2 HIN.out
      have HZ := Lib.hid (show ReadD (OkS room fuse next fs ks ts) fs (dirAt ks ts) s.toList fs[i0].bytes true from .inl ⟨HP.out, HIN.out, ⟨i0, hi, HID.out, HNO.out, rfl⟩, rfl⟩)
      clear he hno
      generalize hid : findD (dirAt ks ts) s.toList = id at *
      clear hid
      have hne : (id == 0) = false := by simp; omega
      obtain ⟨b, o, rfl, hB, c0, c1, c2⟩ := (HF.out.below (Nat.le_refl _) HB2.out).at_ hi
      have HR := Lib.hid (show Rd v2 w.heap.size fs[i0].A fs[i0].bytes from (HRB.out _ (List.getElem_mem hi)).1.below (Nat.le_refl _) HB2.out)
      have HRl := Lib.hid (HRB.out _ (List.getElem_mem hi)).2
      have HRA := Lib.hid (HBA.out _ (List.getElem_mem hi))
      have HRn := Lib.hid (Nat.le_trans (n_used (List.getElem_mem hi)) HU.out)
      have HCall := Lib.hid (fun W (h : Below w.heap.size w W) => HAt.out W h id i0 (by omega) hi HNO.out HID.out)
      clear c0 c2 HNO HID HAt HRB HBA HF
      generalize fs[i0].bytes = zs at *
      generalize fs[i0].A = x1 at *
      generalize fs[i0].n = x2 at *
      generalize fs[i0].c = x3 at *
      obtain ⟨q0, q1, q2, q3, q4, q5⟩ := HX2.out
      have hBw : b < v2.heap.size := by omega
      have hdr : Below v2.heap.size v2 ((v2.alloc (.cells #[] 5)).drew) := ((Below.refl _ _).alloc (Nat.le_refl _) _).drew
      have HDR := Lib.hid hdr
      have HOW := Lib.hid (show Own ((v2.alloc (.cells #[] 5)).drew) v2.heap.size (some ⟨v2.heap.size, 0, none⟩) 0 0 [] from (show Own (v2.alloc (.cells #[] 5)) v2.heap.size (some ⟨v2.heap.size, 0, none⟩) 0 0 [] from World.ownsRow_lit v2 #[] 0 (Nat.le_refl _) (by decide) rfl))
      have HBV := Lib.hid (HB2.out.trans (hdr.mono (Nat.le_of_lt s2)))
      have HBD := Lib.hid (show Below w.heap.size w v2.drew from HB2.out.drew)
      have hx2n : x2 ≤ 2199023255552 := by have := HRn.out; omega
      have hzV : v2.heap.size < ((v2.alloc (.cells #[] 5)).drew).heap.size := by simp
      clear hdr
      go_upto_region 4 with fail
      go_region_law (first
        | (refine step_src0 (wr := (v3.alloc (.cells #[] 5))) rfl _ _ rfl rfl rfl HO3.out HR3.out HRA.out HRl.out hx2n hz3 ?_; intro A5 c5 v5 ho5 hb5; have HOF := Lib.hid (show Own v5 w.heap.size A5 x2 c5 zs from ho5.more hz4); have HBF := Lib.hid (HBW.out.trans (hb5.mono hz4)); clear ho5 hb5)
        | (refine step_src0 (wr := v3) rfl _ _ rfl rfl rfl HO3.out HR3.out HRA.out HRl.out hx2n hz3 ?_; intro A5 c5 v5 ho5 hb5; have HOF := Lib.hid (show Own v5 w.heap.size A5 x2 c5 zs from ho5.more (Nat.le_of_lt s2)); have HBF := Lib.hid (HBW.out.trans (hb5.mono (Nat.le_of_lt s2))); clear ho5 hb5)
        | (go_at_call 29; refine (HCall.out _ ?_).mono ?_; exact ⟨HB2.out.os, HB2.out.tape, HB2.out.output, HB2.out.size, HB2.out.block⟩; rintro e v3 ⟨rfl, hb3⟩; have hb3m : Below v2.heap.size v2 v3 := undrew (W := v2) hb3; have r0 := (hb3m.cell (p := ⟨w.heap.size, 0, none⟩) s2).trans q0; have r1 := (hb3m.cell (p := ⟨w.heap.size, 1, none⟩) s2).trans q1; have r2 := (hb3m.cell (p := ⟨w.heap.size, 2, none⟩) s2).trans q2; have r3 := (hb3m.cell (p := ⟨w.heap.size, 3, none⟩) s2).trans q3; have r4 := (hb3m.cell (p := ⟨w.heap.size, 4, none⟩) s2).trans q4; have r5 := (hb3m.cell (p := ⟨w.heap.size, 5, none⟩) s2).trans q5; have r6 := (hb3m.cell (p := ⟨b, o + i0 * 3 + 1, none⟩) hBw).trans c1; have hal : Below v2.heap.size v2 (v3.alloc (.cells #[] 5)) := hb3m.alloc hb3m.size _; have HO3 := Lib.hid (show Own (v3.alloc (.cells #[] 5)) v3.heap.size (some ⟨v3.heap.size, 0, none⟩) 0 0 [] from World.ownsRow_lit v3 #[] 0 (Nat.le_refl _) (by decide) rfl); have HR3 := Lib.hid (show Rd (v3.alloc (.cells #[] 5)) w.heap.size x1 zs from HR.out.below (Nat.le_of_lt s2) hal); have HBW := Lib.hid (show Below w.heap.size w (v3.alloc (.cells #[] 5)) from HB2.out.trans (hal.mono (Nat.le_of_lt s2))); have hz3 : v3.heap.size ≤ (v3.alloc (.cells #[] 5)).heap.size := alloc_le _ _; have hz4 : w.heap.size ≤ v3.heap.size := Nat.le_trans (Nat.le_of_lt s2) hb3m.size; have hz5 : w.heap.size < v3.heap.size := Nat.lt_of_lt_of_le s2 hb3m.size; have hz6 : b < v3.heap.size := Nat.lt_of_lt_of_le hBw hb3m.size; clear hb3 hb3m hal q0 q1 q2 q3 q4 q5 c1)
        | (go_at_call 29; refine (HCall.out _ ?_).mono ?_; exact HBV.out; rintro e v3 ⟨rfl, hb3⟩; have hb3m : Below v2.heap.size v2 v3 := HDR.out.trans (hb3.mono (Nat.le_of_lt hzV)); have r0 := (hb3m.cell (p := ⟨w.heap.size, 0, none⟩) s2).trans q0; have r1 := (hb3m.cell (p := ⟨w.heap.size, 1, none⟩) s2).trans q1; have r2 := (hb3m.cell (p := ⟨w.heap.size, 2, none⟩) s2).trans q2; have r3 := (hb3m.cell (p := ⟨w.heap.size, 3, none⟩) s2).trans q3; have r4 := (hb3m.cell (p := ⟨w.heap.size, 4, none⟩) s2).trans q4; have r5 := (hb3m.cell (p := ⟨w.heap.size, 5, none⟩) s2).trans q5; have r6 := (hb3m.cell (p := ⟨b, o + i0 * 3 + 1, none⟩) hBw).trans c1; have HO3 := Lib.hid (show Own v3 v2.heap.size (some ⟨v2.heap.size, 0, none⟩) 0 0 [] from HOW.out.below (Nat.le_refl _) hb3); have HR3 := Lib.hid (show Rd v3 w.heap.size x1 zs from HR.out.below (Nat.le_of_lt s2) hb3m); have HBW := Lib.hid (HB2.out.trans (hb3m.mono (Nat.le_of_lt s2))); have hz3 : v2.heap.size ≤ v3.heap.size := hb3m.size; have hz5 : w.heap.size < v3.heap.size := Nat.lt_of_lt_of_le s2 hb3m.size; have hz6 : b < v3.heap.size := Nat.lt_of_lt_of_le hBw hb3m.size; clear hb3 hb3m q0 q1 q2 q3 q4 q5 c1)
        | (go_simp; go_at_call 29; refine (HCall.out _ ?_).mono ?_; exact ⟨HB2.out.os, HB2.out.tape, HB2.out.output, HB2.out.size, HB2.out.block⟩; rintro e v3 ⟨rfl, hb3⟩; have hb3m : Below v2.heap.size v2 v3 := undrew (W := v2) hb3; have r0 := (hb3m.cell (p := ⟨w.heap.size, 0, none⟩) s2).trans q0; have r1 := (hb3m.cell (p := ⟨w.heap.size, 1, none⟩) s2).trans q1; have r2 := (hb3m.cell (p := ⟨w.heap.size, 2, none⟩) s2).trans q2; have r3 := (hb3m.cell (p := ⟨w.heap.size, 3, none⟩) s2).trans q3; have r4 := (hb3m.cell (p := ⟨w.heap.size, 4, none⟩) s2).trans q4; have r5 := (hb3m.cell (p := ⟨w.heap.size, 5, none⟩) s2).trans q5; have r6 := (hb3m.cell (p := ⟨b, o + i0 * 3 + 1, none⟩) hBw).trans c1; have hal : Below v2.heap.size v2 (v3.alloc (.cells #[] 5)) := hb3m.alloc hb3m.size _; have HO3 := Lib.hid (show Own (v3.alloc (.cells #[] 5)) v3.heap.size (some ⟨v3.heap.size, 0, none⟩) 0 0 [] from World.ownsRow_lit v3 #[] 0 (Nat.le_refl _) (by decide) rfl); have HR3 := Lib.hid (show Rd (v3.alloc (.cells #[] 5)) w.heap.size x1 zs from HR.out.below (Nat.le_of_lt s2) hal); have HBW := Lib.hid (show Below w.heap.size w (v3.alloc (.cells #[] 5)) from HB2.out.trans (hal.mono (Nat.le_of_lt s2))); have hz3 : v3.heap.size ≤ (v3.alloc (.cells #[] 5)).heap.size := alloc_le _ _; have hz4 : w.heap.size ≤ v3.heap.size := Nat.le_trans (Nat.le_of_lt s2) hb3m.size; have hz5 : w.heap.size < v3.heap.size := Nat.lt_of_lt_of_le s2 hb3m.size; have hz6 : b < v3.heap.size := Nat.lt_of_lt_of_le hBw hb3m.size; clear hb3 hb3m hal q0 q1 q2 q3 q4 q5 c1)
        | (go_simp; go_at_call 29; refine (HCall.out _ ?_).mono ?_; exact HBV.out; rintro e v3 ⟨rfl, hb3⟩; have hb3m : Below v2.heap.size v2 v3 := HDR.out.trans (hb3.mono (Nat.le_of_lt hzV)); have r0 := (hb3m.cell (p := ⟨w.heap.size, 0, none⟩) s2).trans q0; have r1 := (hb3m.cell (p := ⟨w.heap.size, 1, none⟩) s2).trans q1; have r2 := (hb3m.cell (p := ⟨w.heap.size, 2, none⟩) s2).trans q2; have r3 := (hb3m.cell (p := ⟨w.heap.size, 3, none⟩) s2).trans q3; have r4 := (hb3m.cell (p := ⟨w.heap.size, 4, none⟩) s2).trans q4; have r5 := (hb3m.cell (p := ⟨w.heap.size, 5, none⟩) s2).trans q5; have r6 := (hb3m.cell (p := ⟨b, o + i0 * 3 + 1, none⟩) hBw).trans c1; have HO3 := Lib.hid (show Own v3 v2.heap.size (some ⟨v2.heap.size, 0, none⟩) 0 0 [] from HOW.out.below (Nat.le_refl _) hb3); have HR3 := Lib.hid (show Rd v3 w.heap.size x1 zs from HR.out.below (Nat.le_of_lt s2) hb3m); have HBW := Lib.hid (HB2.out.trans (hb3m.mono (Nat.le_of_lt s2))); have hz3 : v2.heap.size ≤ v3.heap.size := hb3m.size; have hz5 : w.heap.size < v3.heap.size := Nat.lt_of_lt_of_le s2 hb3m.size; have hz6 : b < v3.heap.size := Nat.lt_of_lt_of_le hBw hb3m.size; clear hb3 hb3m q0 q1 q2 q3 q4 q5 c1)
        | fail)
      all_goals
        have HOG := Lib.hid (show Own v5 w.heap.size A5 zs.length c5 zs by rw [HRl.out]; exact HOF.out)
        clear r0 r1 r2 r3 r4 r5 r6
        go_wp2_with fail
        go_ret2
        exact ⟨zs, true, A5, c5, by rw [HRl.out]; rfl, HZ.out, HOG.out, HBF.out⟩
    · have HN := Lib.hid (show ¬ (OkS room fuse next fs ks ts ∧ InN (dirAt ks ts) s.toList) from fun h => hin h.2)
      have h0 := find_none hin
      rw [h0]
      clear hin h0
      go_wp2_with fail
      go_ret2
      exact AnsRead.no HN.out HB2.out
  · have HFi := Lib.hid (l02Find_any none 0 0 [] s v1 (fun h => absurd h (by simp)) rfl (by omega))
    have HN := Lib.hid (show ¬ (OkS room fuse next fs ks ts ∧ InN (dirAt ks ts) s.toList) from fun h => hN h.1)
    clear hN
    go_wp2_with fail
    refine HFi.out.mono ?_
    rintro e v2 ⟨rfl, hb2⟩
    have HB2 := Lib.hid (HB1.out.trans (hb2.mono (Nat.le_of_lt s1)))
    have h0 : findD [] s.toList = 0 := rfl
    rw [h0]
    clear hb2 h0
    go_wp2_with fail
    go_ret2
    exact AnsRead.no HN.out HB2.out
end Go.Proofs.YtckiloacbanbmaaDoor.DOk
