/- The program's DiskOk. -/
import Derived.Test.YtckiloacbanbmaaDoorImplIds
namespace Go.Proofs.YtckiloacbanbmaaDoor.DOk
open Go.RowKit Go.Proofs.YtckiloacbanbmaaDoor.Bytes Go.Proofs.YtckiloacbanbmaaDoor.Rows_
set_option linter.unusedVariables false

def NumI (room fuse next : Int) : Prop := 0 ≤ room ∧ room ≤ 400000 ∧ -1 ≤ fuse ∧ fuse ≤ 1000 ∧ 1 ≤ next ∧ next ≤ 1000000
def OkI (room fuse next : Int) (fs : List FileD) (ks : List LinkD) (ts : List TurnD) : Prop :=
  NumI room fuse next ∧ FilesOkI room next fs ∧ (∀ j h, KeptAtI ks j h) ∧ TurnsOkI ks ts ∧ IdsOkI fs ks ts

set_option maxRecDepth 100000 in
set_option maxHeartbeats 6400000 in
theorem implOk_any (room fuse next : Int) (F : Option Addr) (nf cf : Nat) (K : Option Addr) (nk ck : Nat) (T : Option Addr) (nt ct : Nat) (fs : List FileD) (ks : List LinkD) (ts : List TurnD) (w : World)
    (hf : RdF w w.heap.size F fs) (hfl : fs.length = nf) (hfn : nf ≤ 2000000) (hfs : ∀ x ∈ fs, (Lit.int .i64 x.id).wf = true) (hu : usedD fs ≤ 1099511627776)
    (hk : RdL w w.heap.size K ks) (hkl : ks.length = nk) (hkn : nk ≤ 2000000) (hks : ∀ x ∈ ks, x.1.size ≤ maxLen ∧ (Lit.int .i64 x.2).wf = true)
    (ht : RdT w w.heap.size T ts) (htl : ts.length = nt) (htn : nt ≤ 2000000) (hts : ∀ x ∈ ts, x.name.size ≤ maxLen ∧ x.to_.size ≤ maxLen ∧ (Lit.int .i64 x.id).wf = true) :
    Calls Tryd.prog 14 #[.agg #[.int .i64 room, .int .i64 fuse, .int .i64 next, .slice F nf cf, .slice K nk ck, .slice T nt ct]] w (Ans' (OkI room fuse next fs ks ts) w.heap.size w) := by
  have hb0 := Lib.hid ((Below.refl w.heap.size w).alloc (Nat.le_refl _) (.cells #[.int .i64 room, .int .i64 fuse, .int .i64 next, .slice F nf cf, .slice K nk ck, .slice T nt ct] 35))
  have hbS := Lib.hid (show (w.alloc (.cells #[.int .i64 room, .int .i64 fuse, .int .i64 next, .slice F nf cf, .slice K nk ck, .slice T nt ct] 35)).heap.size = w.heap.size + 1 by simp)
  have hbC := Lib.hid (show ∀ j v, #[Value.int .i64 room, .int .i64 fuse, .int .i64 next, .slice F nf cf, .slice K nk ck, .slice T nt ct][j]? = some v → (w.alloc (.cells #[.int .i64 room, .int .i64 fuse, .int .i64 next, .slice F nf cf, .slice K nk ck, .slice T nt ct] 35)).cell? ⟨w.heap.size, j, none⟩ = some v from fun j v h => by rw [World.cell?_alloc_at _ _ _ _ rfl]; exact h)
  by_cases hd : NumI room fuse next
  · have HF := Lib.hid (fun W (h : RdF W W.heap.size F fs) => filesOk_any room fuse next F nf cf K nk ck T nt ct fs W h hfl (by omega) hu)
    have HK := Lib.hid (fun W (h : RdL W W.heap.size K ks) => keptOk_any K nk ck ks W h hkl (by omega) (fun x hx => (hks x hx).1))
    have HT := Lib.hid (fun W (h : RdL W W.heap.size K ks) (h' : RdT W W.heap.size T ts) => turnsOk_any K nk ck T nt ct ks ts W h hkl hkn hks h' htl hts)
    have HI := Lib.hid (fun W (h : RdF W W.heap.size F fs) (h' : RdL W W.heap.size K ks) (h'' : RdT W W.heap.size T ts) => idsOk_any room fuse next F nf cf K nk ck T nt ct fs ks ts W h hfl hfn hfs h' hkl hkn (fun x hx => (hks x hx).2) h'' htl htn (fun x hx => (hts x hx).2.2))
    have RF := Lib.hid (fun W (h : Below w.heap.size w W) => (hf.below (Nat.le_refl _) h).more h.size)
    have RL := Lib.hid (fun W (h : Below w.heap.size w W) => (hk.below (Nat.le_refl _) h).more h.size)
    have RT := Lib.hid (fun W (h : Below w.heap.size w W) => (ht.below (Nat.le_refl _) h).more h.size)
    have HB1 := Lib.hid (show ¬ FilesOkI room next fs → ¬ OkI room fuse next fs ks ts from fun a b => a b.2.1)
    have HB2 := Lib.hid (show ¬ (∀ j h, KeptAtI ks j h) → ¬ OkI room fuse next fs ks ts from fun a b => a b.2.2.1)
    have HB3 := Lib.hid (show ¬ TurnsOkI ks ts → ¬ OkI room fuse next fs ks ts from fun a b => a b.2.2.2.1)
    have HB4 := Lib.hid (show ¬ IdsOkI fs ks ts → ¬ OkI room fuse next fs ks ts from fun a b => a b.2.2.2.2)
    have HAll := Lib.hid (show FilesOkI room next fs → (∀ j h, KeptAtI ks j h) → TurnsOkI ks ts → IdsOkI fs ks ts → OkI room fuse next fs ks ts from fun a b c d => ⟨hd, a, b, c, d⟩)
    obtain ⟨n0, n1, n2, n3, n4, n5⟩ := hd
    clear hf hfl hfs hu hk hkl hks ht htl hts
    go_enter Tryd.func14, Tryd.ntmps14
    go_wp2_with fail
    refine (HF.out _ (RF.out _ hb0.out)).mono ?_
    rintro e v1 ⟨b1, rfl, i1, hb1⟩
    have I1 := Lib.hid i1
    have hbm1 : Below (w.heap.size + 1) _ v1 := hb1.mono (by simp)
    have hcell1 : ∀ j v, #[Value.int .i64 room, .int .i64 fuse, .int .i64 next, .slice F nf cf, .slice K nk ck, .slice T nt ct][j]? = some v → v1.cell? ⟨w.heap.size, j, none⟩ = some v := fun j v h => (hbm1.cell (p := ⟨w.heap.size, j, none⟩) (by show w.heap.size < w.heap.size + 1; omega)).trans (hbC.out j v h)
    have BW1 := Lib.hid (hb0.out.trans (hbm1.mono (by omega)))
    have HC1 := Lib.hid hcell1
    have hz1 : w.heap.size < v1.heap.size := by have := hb1.size; simp at this; omega
    have p4 := hcell1 4 _ rfl
    have p5 := hcell1 5 _ rfl
    clear hb1 hbm1 hcell1 i1
    cases b1
    · have HN := Lib.hid (HB1.out (fun h => by have := I1.out.2 h; cases this))
      go_wp2_with fail
      go_ret
      exact ansI_no HN.out BW1.out
    · have P1 := Lib.hid (I1.out.1 rfl)
      go_wp2_with fail
      refine (HK.out _ (RL.out _ BW1.out)).mono ?_
      rintro e v2 ⟨b2, rfl, i2, hb2⟩
      have I2 := Lib.hid i2
      have hcell2 : ∀ j v, #[Value.int .i64 room, .int .i64 fuse, .int .i64 next, .slice F nf cf, .slice K nk ck, .slice T nt ct][j]? = some v → v2.cell? ⟨w.heap.size, j, none⟩ = some v := fun j v h => (hb2.cell (p := ⟨w.heap.size, j, none⟩) hz1).trans (HC1.out j v h)
      have BW2 := Lib.hid (BW1.out.trans (hb2.mono (by omega)))
      have HC2 := Lib.hid hcell2
      have hz2 : w.heap.size < v2.heap.size := by have := hb2.size; omega
      clear p4 p5
      have p4 := hcell2 4 _ rfl
      have p5 := hcell2 5 _ rfl
      clear hb2 hcell2 i2
      cases b2
      · have HN := Lib.hid (HB2.out (fun h => by have := I2.out.2 h; cases this))
        go_wp2_with fail
        go_ret
        exact ansI_no HN.out BW2.out
      · have P2 := Lib.hid (I2.out.1 rfl)
        go_wp2_with fail
        refine (HT.out _ (RL.out _ BW2.out) (RT.out _ BW2.out)).mono ?_
        rintro e v3 ⟨b3, rfl, i3, hb3⟩
        have I3 := Lib.hid i3
        have hcell3 : ∀ j v, #[Value.int .i64 room, .int .i64 fuse, .int .i64 next, .slice F nf cf, .slice K nk ck, .slice T nt ct][j]? = some v → v3.cell? ⟨w.heap.size, j, none⟩ = some v := fun j v h => (hb3.cell (p := ⟨w.heap.size, j, none⟩) hz2).trans (HC2.out j v h)
        have BW3 := Lib.hid (BW2.out.trans (hb3.mono (by omega)))
        clear p4 p5
        have p0 := hcell3 0 _ rfl
        have p1 := hcell3 1 _ rfl
        have p2 := hcell3 2 _ rfl
        have p3 := hcell3 3 _ rfl
        have p4 := hcell3 4 _ rfl
        have p5 := hcell3 5 _ rfl
        clear hb3 hcell3 i3
        cases b3
        · have HN := Lib.hid (HB3.out (fun h => by have := I3.out.2 h; cases this))
          go_wp2_with fail
          go_ret
          exact ansI_no HN.out BW3.out
        · have P3 := Lib.hid (I3.out.1 rfl)
          go_wp2_with fail
          refine (HI.out _ (RF.out _ BW3.out) (RL.out _ BW3.out) (RT.out _ BW3.out)).mono ?_
          rintro e v4 ⟨b4, rfl, i4, hb4⟩
          have I4 := Lib.hid i4
          have hz3 : w.heap.size ≤ v3.heap.size := BW3.out.size
          have BW4 := Lib.hid (BW3.out.trans (hb4.mono (by omega)))
          clear hb4 i4 p0 p1 p2 p3 p4 p5
          cases b4
          · have HN := Lib.hid (HB4.out (fun h => by have := I4.out.2 h; cases this))
            go_wp2_with fail
            go_ret
            exact ansI_no HN.out BW4.out
          · have P4 := Lib.hid (I4.out.1 rfl)
            have HY := Lib.hid (HAll.out P1.out P2.out P3.out P4.out)
            go_wp2_with fail
            go_ret
            exact ansI_yes HY.out BW4.out
  · have HN := Lib.hid (show ¬ OkI room fuse next fs ks ts from fun h => hd h.1)
    have hd' : ¬ (0 ≤ room ∧ room ≤ 400000 ∧ -1 ≤ fuse ∧ fuse ≤ 1000 ∧ 1 ≤ next ∧ next ≤ 1000000) := hd
    have HD := Lib.hid hd'
    clear hd hd' hf hfl hfs hu hk hkl hks ht htl hts
    go_enter Tryd.func14, Tryd.ntmps14
    go_wp2_with fail
    all_goals first
      | (exfalso; have h := HD.out; omega)
      | (go_ret; exact ansI_no HN.out hb0.out)
end Go.Proofs.YtckiloacbanbmaaDoor.DOk
