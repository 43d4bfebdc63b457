/- The program's DepotOk, from its parts. -/
import Derived.Test.YtckiloacbanbmaaDoorDepImpl
namespace Go.Proofs.YtckiloacbanbmaaDoor.DOk
open Go.RowKit Go.Proofs.YtckiloacbanbmaaDoor.Bytes Go.Proofs.YtckiloacbanbmaaDoor.Rows_
open Go.Proofs.YtckiloacbanbmaaDoor.Num (nm logP var_below impl_LogName_any isGenN_yes isGenN_no)
set_option linter.unusedVariables false

set_option maxRecDepth 100000 in
set_option maxHeartbeats 12000000 in
theorem impl_DepotOk_any (room fuse next : Int) (F : Option Addr) (nf cf : Nat) (K : Option Addr) (nk ck : Nat) (T : Option Addr) (nt ct : Nat) (fs : List FileD) (ks : List LinkD) (ts : List TurnD) (gen seq size : Int) (stuck : Bool) (w : World) (htab : Lib.TabIs Tryd.prog w "internal/strconv.uint64pow10" .u64 Lib.pow10Tab)
    (hf : RdF w w.heap.size F fs) (hfl : fs.length = nf) (hfn : nf ≤ 2000000) (hrb : RdB w w.heap.size fs) (hba : ∀ f ∈ fs, f.A = none → f.n = 0 ∧ f.c = 0) (hfs : ∀ x ∈ fs, (Lit.int .i64 x.id).wf = true) (hu : usedD fs ≤ 1099511627776)
    (hk : RdL w w.heap.size K ks) (hkl : ks.length = nk) (hkn : nk ≤ 2000000) (hKA : K = none → nk = 0 ∧ ck = 0) (hks : ∀ x ∈ ks, x.1.size ≤ maxLen ∧ (Lit.int .i64 x.2).wf = true)
    (ht : RdT w w.heap.size T ts) (htl : ts.length = nt) (htn : nt ≤ 2000000) (hts : ∀ x ∈ ts, x.name.size ≤ maxLen ∧ x.to_.size ≤ maxLen ∧ (Lit.int .i64 x.id).wf = true) :
    Calls Tryd.prog 7 #[.agg #[.int .i64 room, .int .i64 fuse, .int .i64 next, .slice F nf cf, .slice K nk ck, .slice T nt ct, .int .i64 gen, .int .i64 seq, .int .i64 size, .bool stuck]] w (Ans' (DepP (OkS room fuse next fs ks ts) fs (dirAt ks ts) fuse gen seq size stuck) w.heap.size w) := by
  have hx0 := Lib.hid (Box10.new w (.int .i64 room) (.int .i64 fuse) (.int .i64 next) (.slice F nf cf) (.slice K nk ck) (.slice T nt ct) (.int .i64 gen) (.int .i64 seq) (.int .i64 size) (.bool stuck) 37)
  have hb0 := Lib.hid ((Below.refl w.heap.size w).alloc (Nat.le_refl _) (.cells #[.int .i64 room, .int .i64 fuse, .int .i64 next, .slice F nf cf, .slice K nk ck, .slice T nt ct, .int .i64 gen, .int .i64 seq, .int .i64 size, .bool stuck] 37))
  have HOk := Lib.hid (fun W (h : Below w.heap.size w W) => implOk_any room fuse next F nf cf K nk ck T nt ct fs ks ts W ((hf.below (Nat.le_refl _) h).more h.size) hfl hfn hfs hu ((hk.below (Nat.le_refl _) h).more h.size) hkl hkn hks ((ht.below (Nat.le_refl _) h).more h.size) htl htn hts)
  have HJ := Lib.hid (fun W (h : Below w.heap.size w W) => hasJournal_any room fuse next F nf cf K nk ck T nt ct fs ks ts gen seq size stuck W (var_below h htab) ((hf.below (Nat.le_refl _) h).more h.size) hfl hfn ((hrb.below (Nat.le_refl _) h).more h.size) hba hfs hu ((hk.below (Nat.le_refl _) h).more h.size) hkl hkn hKA hks ((ht.below (Nat.le_refl _) h).more h.size) htl htn hts)
  clear hf hfl hrb hba hfs hu hk hkl hKA hks ht htl hts htab
  go_enter Tryd.func7, Tryd.ntmps7
  go_wp2_with fail
  refine (HOk.out _ hb0.out).mono ?_
  rintro e v1 ⟨b, rfl, hv, hb1⟩
  have s1 : w.heap.size < v1.heap.size := by have := hb1.size; simp at this; omega
  have HB1 := Lib.hid (hb0.out.trans (hb1.mono (by simp)))
  have HX1 := Lib.hid (hx0.out.below hb1 (by simp))
  have HV := Lib.hid (hv.trans (ok_iff room fuse next fs ks ts).symm)
  clear hb1 hv hx0 hb0 HOk
  have p0 : v1.cell? ⟨w.heap.size, 0, none⟩ = some (.int .i64 room) := HX1.out.1.1
  have p1 : v1.cell? ⟨w.heap.size, 1, none⟩ = some (.int .i64 fuse) := HX1.out.1.2.1
  have p2 : v1.cell? ⟨w.heap.size, 2, none⟩ = some (.int .i64 next) := HX1.out.1.2.2.1
  have p3 : v1.cell? ⟨w.heap.size, 3, none⟩ = some (.slice F nf cf) := HX1.out.1.2.2.2.1
  have p4 : v1.cell? ⟨w.heap.size, 4, none⟩ = some (.slice K nk ck) := HX1.out.1.2.2.2.2.1
  have p5 : v1.cell? ⟨w.heap.size, 5, none⟩ = some (.slice T nt ct) := HX1.out.1.2.2.2.2.2
  have p6 : v1.cell? ⟨w.heap.size, 6, none⟩ = some (.int .i64 gen) := HX1.out.2.1
  have p7 : v1.cell? ⟨w.heap.size, 7, none⟩ = some (.int .i64 seq) := HX1.out.2.2.1
  have p8 : v1.cell? ⟨w.heap.size, 8, none⟩ = some (.int .i64 size) := HX1.out.2.2.2.1
  have p9 : v1.cell? ⟨w.heap.size, 9, none⟩ = some (.bool stuck) := HX1.out.2.2.2.2
  cases b
  · have HN := Lib.hid (show ¬ DepP (OkS room fuse next fs ks ts) fs (dirAt ks ts) fuse gen seq size stuck from fun h => by have := HV.out.2 h.1; cases this)
    clear HV
    go_wp2_with fail
    go_ret
    exact ansI_no HN.out HB1.out
  · have HP := Lib.hid (HV.out.1 rfl)
    clear HV
    by_cases hg : 1 ≤ gen ∧ gen ≤ 1000000000
    · have HG := Lib.hid hg
      obtain ⟨hg0, hg1⟩ := hg
      go_wp2_with fail
      refine (isGenN_yes _ _ hg0 hg1).mono ?_
      rintro e w' ⟨rfl, rfl⟩
      by_cases hq : (1 ≤ seq ∧ seq ≤ 1000000001) ∧ 0 ≤ size
      · have HQ := Lib.hid hq
        obtain ⟨⟨hq0, hq1⟩, hq2⟩ := hq
        by_cases hf0 : fuse = 0 ∨ stuck = true
        · have HY := Lib.hid (show DepP (OkS room fuse next fs ks ts) fs (dirAt ks ts) fuse gen seq size stuck from ⟨HP.out, HG.out, HQ.out.1, HQ.out.2, hf0.elim .inl (fun h => .inr (.inl h))⟩)
          by_cases hfz : fuse = 0
          · have hfb : (fuse == 0) = true := by simpa using hfz
            clear hf0 hfz
            go_wp2_with fail
            go_ret
            exact ansI_yes HY.out HB1.out
          · have hfb : (fuse == 0) = false := by simpa using hfz
            have hst : stuck = true := hf0.resolve_left hfz
            clear hf0 hfz
            subst hst
            go_wp2_with fail
            go_ret
            exact ansI_yes HY.out HB1.out
        · have hfb : (fuse == 0) = false := by simpa using fun h => hf0 (.inl h)
          have hst : stuck = false := by cases stuck <;> simp_all
          have HNF := Lib.hid hf0
          clear hf0
          subst hst
          go_wp2_with fail
          refine (HJ.out _ HB1.out).mono ?_
          rintro e v2 ⟨b2, rfl, hv2, hb2⟩
          have HB2 := Lib.hid (HB1.out.trans (hb2.mono (Nat.le_of_lt s1)))
          cases b2
          · have HN := Lib.hid (show ¬ DepP (OkS room fuse next fs ks ts) fs (dirAt ks ts) fuse gen seq size false from fun h => by
              rcases h.2.2.2.2 with h | h | h
              · exact HNF.out (.inl h)
              · cases h
              · have := hv2.2 h; cases this)
            clear hv2 hb2
            go_wp2_with fail
            go_ret
            exact ansI_no HN.out HB2.out
          · have HY := Lib.hid (show DepP (OkS room fuse next fs ks ts) fs (dirAt ks ts) fuse gen seq size false from ⟨HP.out, HG.out, HQ.out.1, HQ.out.2, .inr (.inr (hv2.1 rfl))⟩)
            clear hv2 hb2
            go_wp2_with fail
            go_ret
            exact ansI_yes HY.out HB2.out
      · have HN := Lib.hid (show ¬ DepP (OkS room fuse next fs ks ts) fs (dirAt ks ts) fuse gen seq size stuck from fun h => hq ⟨h.2.2.1, h.2.2.2.1⟩)
        have HQ := Lib.hid hq
        clear hq
        go_wp2_with fail
        all_goals first
          | (exfalso; have h := HQ.out; omega)
          | (go_ret; exact ansI_no HN.out HB1.out)
    · have HN := Lib.hid (show ¬ DepP (OkS room fuse next fs ks ts) fs (dirAt ks ts) fuse gen seq size stuck from fun h => hg h.2.1)
      have hg' : gen < 1 ∨ 1000000000 < gen := by omega
      clear hg
      go_wp2_with fail
      refine (isGenN_no _ _ hg').mono ?_
      rintro e w' ⟨rfl, rfl⟩
      go_wp2_with fail
      go_ret
      exact ansI_no HN.out HB1.out
end Go.Proofs.YtckiloacbanbmaaDoor.DOk
