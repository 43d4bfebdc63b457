/- Contract of the listing of a disk's directory, in the program. -/
import Derived.Test.YtmlodfceepokoaaLinkList
import Derived.Test.YtmlodfceepokoaaRisMath
import Derived.Test.YtmlodfceepokoaaDirSpec
import Derived.Test.YtmlodfceepokoaaImplOk
import Derived.Test.YtmlodfceepokoaaImplTurns
namespace Go.Proofs.Ytmlodfceepokoaa.DOk
open Go.RowKit Go.Proofs.Ytmlodfceepokoaa.Bytes Go.Proofs.Ytmlodfceepokoaa.Rows_ Go.Maps
set_option linter.unusedVariables false

set_option maxRecDepth 100000 in
set_option maxHeartbeats 1600000 in
theorem impl_DiskDir_any (room fuse next : Int) (F : Option Addr) (nf cf : Nat) (K : Option Addr) (nk ck : Nat) (T : Option Addr) (nt ct : Nat) (fs : List FileD) (ks : List LinkD) (ts : List TurnD) (w : World)
    (hf : RdF w w.heap.size F fs) (hfl : fs.length = nf) (hfn : nf ≤ 2000000) (hfs : ∀ x ∈ fs, (Lit.int .i64 x.id).wf = true) (hu : usedD fs ≤ 1099511627776)
    (hk : RdL w w.heap.size K ks) (hkl : ks.length = nk) (hkn : nk + nt ≤ 2000000) (hks : ∀ x ∈ ks, x.1.size ≤ maxLen ∧ (Lit.int .i64 x.2).wf = true)
    (ht : RdT w w.heap.size T ts) (htl : ts.length = nt) (hts : ∀ x ∈ ts, x.name.size ≤ maxLen ∧ x.to_.size ≤ maxLen ∧ (Lit.int .i64 x.id).wf = true) :
    Calls Try.prog 36 #[.agg #[.int .i64 room, .int .i64 fuse, .int .i64 next, .slice F nf cf, .slice K nk ck, .slice T nt ct]] w fun e w' =>
      ((OkS room fuse next fs ks ts ∧ ∃ A' n' c', e = .returned (.slice A' n' c') ∧ OwnL w' w.heap.size A' n' c' (dirAt ks ts)) ∨ (¬ OkS room fuse next fs ks ts ∧ e = .returned (.slice none 0 0))) ∧ Below w.heap.size w w' := by
  have hx0 := Lib.hid (Box6.new w (.int .i64 room) (.int .i64 fuse) (.int .i64 next) (.slice F nf cf) (.slice K nk ck) (.slice T nt ct) 53)
  have hb0 := Lib.hid ((Below.refl w.heap.size w).alloc (Nat.le_refl _) (.cells #[.int .i64 room, .int .i64 fuse, .int .i64 next, .slice F nf cf, .slice K nk ck, .slice T nt ct] 53))
  have HOk := Lib.hid (fun W (h : Below w.heap.size w W) => implOk_any room fuse next F nf cf K nk ck T nt ct fs ks ts W ((hf.below (Nat.le_refl _) h).more h.size) hfl hfn hfs hu ((hk.below (Nat.le_refl _) h).more h.size) hkl (by omega) hks ((ht.below (Nat.le_refl _) h).more h.size) htl (by omega) hts)
  have HDir := Lib.hid (fun W (h : Below w.heap.size w W) => directoryOf_any K nk ck T nt ct ks ts W ((hk.below (Nat.le_refl _) h).more h.size) hkl (by omega) hks ((ht.below (Nat.le_refl _) h).more h.size) htl (by omega) hts)
  clear hf hfl hfs hu hk hkl hks ht htl hts
  go_enter Try.func36, Try.ntmps36
  go_wp2_with fail
  refine (HOk.out _ hb0.out).mono ?_
  rintro e v1 ⟨b, rfl, hv, hb1⟩
  have s1 : w.heap.size < v1.heap.size := by have := hb1.size; simp at this; omega
  have HB1 := Lib.hid (hb0.out.trans (hb1.mono (by simp)))
  have HX1 := Lib.hid (hx0.out.below hb1 (by simp))
  have HV := Lib.hid (hv.trans (ok_iff room fuse next fs ks ts).symm)
  clear hb1 hv hx0 hb0 HOk
  cases b
  · have HN := Lib.hid (show ¬ OkS room fuse next fs ks ts from fun h => by have := HV.out.2 h; cases this)
    clear HV
    go_wp2_with fail
    go_ret
    exact ⟨.inr ⟨HN.out, rfl⟩, HB1.out⟩
  · have HP := Lib.hid (HV.out.1 rfl)
    obtain ⟨q0, q1, q2, q3, q4, q5⟩ := HX1.out
    clear HV
    go_wp2_with fail
    refine (HDir.out _ HB1.out).mono ?_
    rintro e v2 ⟨rfl, ho2, hb2⟩
    have hsz := World.ownsMap.size_le ho2
    have s2 : v1.heap.size ≤ v2.heap.size := hb2.size
    have HO2 := Lib.hid ho2
    have HB2 := Lib.hid (HB1.out.trans (hb2.mono (Nat.le_of_lt s1)))
    have HPP := Lib.hid (okS_parts HP.out)
    have HRI := Lib.hid (okS_ris HP.out)
    clear ho2 hb2 q0 q1 q2 q3 q4 q5 HX1 HB1
    go_wp2_with fail
    refine (links_any v1.heap.size (nk + nt) (dirM ks ts) (dirAt ks ts) _ HO2.out HPP.out.1 HPP.out.2.1 HRI.out (by omega)).mono ?_
    rintro e v3 ⟨A3, n3, c3, rfl, ho3, hb3⟩
    have HO3 := Lib.hid (ho3.more HB2.out.size)
    have HB3 := Lib.hid (HB2.out.trans (hb3.mono HB2.out.size))
    clear ho3 hb3
    go_wp2_with fail
    go_ret
    exact ⟨.inl ⟨HP.out, _, _, _, rfl, HO3.out⟩, HB3.out⟩
end Go.Proofs.Ytmlodfceepokoaa.DOk
