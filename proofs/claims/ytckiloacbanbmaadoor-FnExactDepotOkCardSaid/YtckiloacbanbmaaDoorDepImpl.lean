/- The program's DepotOk. -/
import Derived.Test.YtckiloacbanbmaaDoorDepMath
import Derived.Deep.RegionWith
namespace Go.Proofs.YtckiloacbanbmaaDoor.DOk
open Go.RowKit Go.Proofs.YtckiloacbanbmaaDoor.Bytes Go.Proofs.YtckiloacbanbmaaDoor.Rows_
open Go.Proofs.YtckiloacbanbmaaDoor.Num (nm logP var_below impl_LogName_any isGenN_yes isGenN_no)
set_option linter.unusedVariables false

set_option maxRecDepth 100000 in
set_option maxHeartbeats 6400000 in
theorem hasJournal_any (room fuse next : Int) (F : Option Addr) (nf cf : Nat) (K : Option Addr) (nk ck : Nat) (T : Option Addr) (nt ct : Nat) (fs : List FileD) (ks : List LinkD) (ts : List TurnD) (gen seq size : Int) (stuck : Bool) (w : World) (htab : Lib.TabIs Tryd.prog w "internal/strconv.uint64pow10" .u64 Lib.pow10Tab)
    (hf : RdF w w.heap.size F fs) (hfl : fs.length = nf) (hfn : nf ≤ 2000000) (hrb : RdB w w.heap.size fs) (hba : ∀ f ∈ fs, f.A = none → f.n = 0 ∧ f.c = 0) (hfs : ∀ x ∈ fs, (Lit.int .i64 x.id).wf = true) (hu : usedD fs ≤ 1099511627776)
    (hk : RdL w w.heap.size K ks) (hkl : ks.length = nk) (hkn : nk ≤ 2000000) (hKA : K = none → nk = 0 ∧ ck = 0) (hks : ∀ x ∈ ks, x.1.size ≤ maxLen ∧ (Lit.int .i64 x.2).wf = true)
    (ht : RdT w w.heap.size T ts) (htl : ts.length = nt) (htn : nt ≤ 2000000) (hts : ∀ x ∈ ts, x.name.size ≤ maxLen ∧ x.to_.size ≤ maxLen ∧ (Lit.int .i64 x.id).wf = true) :
    Calls Tryd.prog 16 #[.agg #[.int .i64 room, .int .i64 fuse, .int .i64 next, .slice F nf cf, .slice K nk ck, .slice T nt ct, .int .i64 gen, .int .i64 seq, .int .i64 size, .bool stuck]] w (Ans' (JourP (OkS room fuse next fs ks ts) fs (dirAt ks ts) gen size) w.heap.size w) := by
  have hx0 := Lib.hid (Box10.new w (.int .i64 room) (.int .i64 fuse) (.int .i64 next) (.slice F nf cf) (.slice K nk ck) (.slice T nt ct) (.int .i64 gen) (.int .i64 seq) (.int .i64 size) (.bool stuck) 37)
  have hb0 := Lib.hid ((Below.refl w.heap.size w).alloc (Nat.le_refl _) (.cells #[.int .i64 room, .int .i64 fuse, .int .i64 next, .slice F nf cf, .slice K nk ck, .slice T nt ct, .int .i64 gen, .int .i64 seq, .int .i64 size, .bool stuck] 37))
  have hs0 : w.heap.size < (w.alloc (.cells #[.int .i64 room, .int .i64 fuse, .int .i64 next, .slice F nf cf, .slice K nk ck, .slice T nt ct, .int .i64 gen, .int .i64 seq, .int .i64 size, .bool stuck] 37)).heap.size := by simp
  have HRead := Lib.hid (fun W (h : Below w.heap.size w W) => impl_DiskRead_any room fuse next F nf cf K nk ck T nt ct fs ks ts (nm logP gen) (nm_size gen) W ((hf.below (Nat.le_refl _) h).more h.size) hfl hfn ((hrb.below (Nat.le_refl _) h).more h.size) hba hfs hu ((hk.below (Nat.le_refl _) h).more h.size) hkl hkn hks ((ht.below (Nat.le_refl _) h).more h.size) htl htn hts)
  have HLog := Lib.hid (fun W => impl_LogName_any gen W)
  have HT0 := Lib.hid (var_below hb0.out htab)
  clear hf hfl hrb hba hfs hu hk hkl hKA hks ht htl hts htab
  obtain ⟨nmg, hnmg⟩ : ∃ s, s = nm logP gen := ⟨_, rfl⟩
  rw [← hnmg] at HRead HLog
  have HNM := Lib.hid hnmg
  clear hnmg
  go_enter Tryd.func16, Tryd.ntmps16
  go_wp2_with fail
  generalize w.alloc (.cells #[.int .i64 room, .int .i64 fuse, .int .i64 next, .slice F nf cf, .slice K nk ck, .slice T nt ct, .int .i64 gen, .int .i64 seq, .int .i64 size, .bool stuck] 37) = V at *
  have HX := hx0
  have HBV := hb0
  have s0 := hs0
  have HTd := Lib.hid (var_below ((Below.refl _ V).drew) HT0.out)
  have p0 : V.cell? ⟨w.heap.size, 0, none⟩ = some (.int .i64 room) := HX.out.1.1
  have p1 : V.cell? ⟨w.heap.size, 1, none⟩ = some (.int .i64 fuse) := HX.out.1.2.1
  have p2 : V.cell? ⟨w.heap.size, 2, none⟩ = some (.int .i64 next) := HX.out.1.2.2.1
  have p3 : V.cell? ⟨w.heap.size, 3, none⟩ = some (.slice F nf cf) := HX.out.1.2.2.2.1
  have p4 : V.cell? ⟨w.heap.size, 4, none⟩ = some (.slice K nk ck) := HX.out.1.2.2.2.2.1
  have p5 : V.cell? ⟨w.heap.size, 5, none⟩ = some (.slice T nt ct) := HX.out.1.2.2.2.2.2
  have p6 : V.cell? ⟨w.heap.size, 6, none⟩ = some (.int .i64 gen) := HX.out.2.1
  have p7 : V.cell? ⟨w.heap.size, 7, none⟩ = some (.int .i64 seq) := HX.out.2.2.1
  have p8 : V.cell? ⟨w.heap.size, 8, none⟩ = some (.int .i64 size) := HX.out.2.2.2.1
  have p9 : V.cell? ⟨w.heap.size, 9, none⟩ = some (.bool stuck) := HX.out.2.2.2.2
  go_region_with (first
    | (go_at_call 39; refine (HLog.out _ ?_).mono ?_; exact HTd.out; rintro e y1 ⟨rfl, hby'⟩; have hyb : Below V.heap.size V y1 := undrew (W := V) hby'; clear hby'; have r0 : y1.cell? ⟨w.heap.size, 0, none⟩ = some (.int .i64 room) := (hyb.cell (p := ⟨w.heap.size, 0, none⟩) s0).trans p0; have r1 : y1.cell? ⟨w.heap.size, 1, none⟩ = some (.int .i64 fuse) := (hyb.cell (p := ⟨w.heap.size, 1, none⟩) s0).trans p1; have r2 : y1.cell? ⟨w.heap.size, 2, none⟩ = some (.int .i64 next) := (hyb.cell (p := ⟨w.heap.size, 2, none⟩) s0).trans p2; have r3 : y1.cell? ⟨w.heap.size, 3, none⟩ = some (.slice F nf cf) := (hyb.cell (p := ⟨w.heap.size, 3, none⟩) s0).trans p3; have r4 : y1.cell? ⟨w.heap.size, 4, none⟩ = some (.slice K nk ck) := (hyb.cell (p := ⟨w.heap.size, 4, none⟩) s0).trans p4; have r5 : y1.cell? ⟨w.heap.size, 5, none⟩ = some (.slice T nt ct) := (hyb.cell (p := ⟨w.heap.size, 5, none⟩) s0).trans p5; have r6 : y1.cell? ⟨w.heap.size, 6, none⟩ = some (.int .i64 gen) := (hyb.cell (p := ⟨w.heap.size, 6, none⟩) s0).trans p6; have r7 : y1.cell? ⟨w.heap.size, 7, none⟩ = some (.int .i64 seq) := (hyb.cell (p := ⟨w.heap.size, 7, none⟩) s0).trans p7; have r8 : y1.cell? ⟨w.heap.size, 8, none⟩ = some (.int .i64 size) := (hyb.cell (p := ⟨w.heap.size, 8, none⟩) s0).trans p8; have r9 : y1.cell? ⟨w.heap.size, 9, none⟩ = some (.bool stuck) := (hyb.cell (p := ⟨w.heap.size, 9, none⟩) s0).trans p9; have HYB := Lib.hid hyb; clear hyb)
    | (go_at_call 38; refine (HRead.out _ ?_).mono ?_; exact HBV.out.trans (HYB.out.mono (Nat.le_of_lt s0)); rintro e y2 ⟨zs, o, A2, c2, rfl, hrd, hoz, hb2⟩; have HRD := Lib.hid (HNM.out ▸ hrd); have HB2 := Lib.hid hb2; clear hrd hoz hb2))
  all_goals
    have s2 : w.heap.size < y1.heap.size := Nat.lt_of_lt_of_le s0 HYB.out.size
    have t8 : y2.cell? ⟨w.heap.size, 8, none⟩ = some (.int .i64 size) := (HB2.out.cell (p := ⟨w.heap.size, 8, none⟩) s2).trans r8
    have HBF := Lib.hid ((HBV.out.trans (HYB.out.mono (Nat.le_of_lt s0))).trans (HB2.out.mono (Nat.le_of_lt s2)))
    clear r0 r1 r2 r3 r4 r5 r6 r7 r8 r9 HB2 HYB
    cases o
    · have HN := Lib.hid (jour_no (size := size) HRD.out)
      clear HRD
      go_wp2_with fail
      go_ret
      exact ansI_no HN.out HBF.out
    · have HJ := Lib.hid (jour_yes (size := size) HRD.out)
      clear HRD
      obtain ⟨n, hn⟩ : ∃ n, n = zs.length := ⟨_, rfl⟩
      rw [← hn] at HJ ⊢
      clear hn
      by_cases hz : ((n : Nat) : Int) = size
      · have HY := Lib.hid (HJ.out.2 hz)
        have hzb : (((n : Nat) : Int) == size) = true := by simpa using hz
        clear hz
        go_wp2_with fail
        go_ret
        exact ansI_yes HY.out HBF.out
      · have HY := Lib.hid (fun h => hz (HJ.out.1 h))
        have hzb : (((n : Nat) : Int) == size) = false := by simpa using hz
        clear hz
        go_wp2_with fail
        go_ret
        exact ansI_no HY.out HBF.out
end Go.Proofs.YtckiloacbanbmaaDoor.DOk
