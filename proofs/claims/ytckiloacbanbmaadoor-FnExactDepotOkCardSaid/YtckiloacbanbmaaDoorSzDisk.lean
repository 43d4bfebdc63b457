/- The laws' helper that bounds a disk's size. -/
import Derived.Test.YtckiloacbanbmaaDoorInts
import Derived.Test.YtckiloacbanbmaaDoorSzB
namespace Go.Proofs.YtckiloacbanbmaaDoor.DOk
open Go.RowKit Go.Proofs.YtckiloacbanbmaaDoor.Bytes Go.Proofs.YtckiloacbanbmaaDoor.Rows_
set_option linter.unusedVariables false

/-- what a size helper answers: -1, or what is left, which P says of -/
def Sz (P : Int → Prop) (B : Nat) (w : World) (e : Ending) (w' : World) : Prop := ∃ r, e = .returned (.int .i64 r) ∧ (r = -1 ∨ (0 ≤ r ∧ P r)) ∧ Below B w w'
theorem sz_no {P : Int → Prop} {B : Nat} {w w' : World} (hb : Below B w w') : Sz P B w (.returned (.int .i64 (-1))) w' := ⟨-1, rfl, .inl rfl, hb⟩
theorem sz_yes {P : Int → Prop} {B : Nat} {w w' : World} {r : Int} (h0 : 0 ≤ r) (h : P r) (hb : Below B w w') : Sz P B w (.returned (.int .i64 r)) w' := ⟨r, rfl, .inr ⟨h0, h⟩, hb⟩

set_option maxRecDepth 100000 in
set_option maxHeartbeats 800000 in
theorem szFile_any (id : Int) (A : Option Addr) (n c : Nat) (safe left : Int) (w : World) (hn : n ≤ 9223372036854775807) (h0 : 0 ≤ left) (h1 : left ≤ 1048576) :
    Calls Tryd.prog 43 #[.agg #[.int .i64 id, .slice A n c, .int .i64 safe], .int .i64 left] w (Sz (fun r => r = left - n) w.heap.size w) := by
  have hS := Lib.hid (fun W => OpOk.szByteS_any A n c left W hn h0 h1)
  have hb0 := Lib.hid ((Below.refl w.heap.size w).alloc (Nat.le_refl _) (.cells #[.int .i64 id, .slice A n c, .int .i64 safe] 79))
  by_cases h : left < n
  · rw [if_pos h] at hS
    go_enter Tryd.func43, Tryd.ntmps43
    go_wp2_with fail
    refine (hS.out _).mono ?_
    rintro e w' ⟨rfl, rfl⟩
    go_wp2_with fail
    go_ret
    exact sz_no hb0.out
  · rw [if_neg h] at hS
    have h2 : 0 ≤ left - n := by omega
    go_enter Tryd.func43, Tryd.ntmps43
    go_wp2_with fail
    refine (hS.out _).mono ?_
    rintro e w' ⟨rfl, rfl⟩
    go_wp2_with fail
    go_ret
    exact sz_yes h2 rfl hb0.out

set_option maxRecDepth 100000 in
set_option maxHeartbeats 800000 in
theorem szLink_any (nm : ByteArray) (id left : Int) (w : World) (hn : nm.size ≤ 9223372036854775807) (h0 : 0 ≤ left) (h1 : left ≤ 1048576) :
    Calls Tryd.prog 44 #[.agg #[.string nm, .int .i64 id], .int .i64 left] w (Sz (fun r => r ≤ left) w.heap.size w) := by
  have hb0 := Lib.hid ((Below.refl w.heap.size w).alloc (Nat.le_refl _) (.cells #[.string nm, .int .i64 id] 81))
  by_cases h : left - (nm.size : Int) < 0
  · go_enter Tryd.func44, Tryd.ntmps44
    go_wp2_with fail
    go_ret
    exact sz_no hb0.out
  · have h2 : 0 ≤ left - (nm.size : Int) := by omega
    go_enter Tryd.func44, Tryd.ntmps44
    go_wp2_with fail
    go_ret
    exact sz_yes h2 (by omega) hb0.out

set_option maxRecDepth 100000 in
set_option maxHeartbeats 800000 in
theorem szTurn_any (kind : Int) (nm to_ : ByteArray) (id left : Int) (w : World) (hn : nm.size ≤ 9223372036854775807) (hn2 : to_.size ≤ 9223372036854775807) (h0 : 0 ≤ left) (h1 : left ≤ 1048576) :
    Calls Tryd.prog 45 #[.agg #[.int .i64 kind, .string nm, .string to_, .int .i64 id], .int .i64 left] w (Sz (fun r => r ≤ left) w.heap.size w) := by
  have hb0 := Lib.hid ((Below.refl w.heap.size w).alloc (Nat.le_refl _) (.cells #[.int .i64 kind, .string nm, .string to_, .int .i64 id] 83))
  by_cases h : left - (nm.size : Int) < 0
  · go_enter Tryd.func45, Tryd.ntmps45
    go_wp2_with fail
    go_ret
    exact sz_no hb0.out
  · have h2 : 0 ≤ left - (nm.size : Int) := by omega
    by_cases h' : left - (nm.size : Int) - (to_.size : Int) < 0
    · go_enter Tryd.func45, Tryd.ntmps45
      go_wp2_with fail
      go_ret
      exact sz_no hb0.out
    · have h3 : 0 ≤ left - (nm.size : Int) - (to_.size : Int) := by omega
      go_enter Tryd.func45, Tryd.ntmps45
      go_wp2_with fail
      go_ret
      exact sz_yes h3 (by omega) hb0.out

set_option maxRecDepth 100000 in
set_option maxHeartbeats 1600000 in
theorem szFileS_any (F : Option Addr) (nf cf : Nat) (fs : List FileD) (left : Int) (w : World) (hf : RdF w w.heap.size F fs) (hfl : fs.length = nf) (hfn : nf ≤ 9223372036854775807) (hfs : ∀ x ∈ fs, x.n ≤ 9223372036854775807) (h0 : 0 ≤ left) (h1 : left ≤ 1048576) :
    Calls Tryd.prog 18 #[.slice F nf cf, .int .i64 left] w (Sz (fun r => r = left - nf - (usedD fs : Nat)) w.heap.size w) := by
  have HF := Lib.hid hf
  have HFL := Lib.hid hfl
  have HFS := Lib.hid hfs
  clear hf hfl hfs
  by_cases hneg : left - (nf : Int) < 0
  · go_enter Tryd.func18, Tryd.ntmps18
    go_wp2_with fail
    go_ret
    exact sz_no (Below.refl _ _)
  · have hpos : 0 ≤ left - (nf : Int) := by omega
    go_enter Tryd.func18, Tryd.ntmps18
    go_wp2_with fail
    go_loopw [1, 5] (fun l i wr => ∃ (k : Nat) (L : Int), k ≤ nf ∧ i = .int .i64 k ∧ l = .int .i64 L ∧ 0 ≤ L ∧ L ≤ 1048576 ∧ Hid (L = left - nf - (usedD (fs.take k) : Nat)) ∧ Below w.heap.size w wr) (fun _ i _ => nf - (intOf i).toNat)
    case atStart => exact ⟨0, _, Nat.zero_le _, rfl, rfl, hpos, by omega, Lib.hid (by have : usedD (fs.take 0) = 0 := rfl; omega), Below.refl _ _⟩
    case round =>
      obtain ⟨k, L, hk, rfl, rfl, hL0, hL1, HL, hb⟩ := hrel
      have hz : w.heap.size ≤ wr.heap.size := hb.size
      by_cases hlt : k < nf
      · have hlt' : k < fs.length := by rw [HFL.out]; exact hlt
        obtain ⟨b, o, rfl, hB, hc0, hc1, hc2⟩ := (HF.out.below (Nat.le_refl _) hb).at_ hlt'
        have HB := Lib.hid hb
        have HS := Lib.hid (used_snoc fs k hlt')
        have hSz := Lib.hid (fun W => szFile_any fs[k].id fs[k].A fs[k].n fs[k].c fs[k].safe L W (HFS.out _ (List.getElem_mem hlt')) hL0 hL1)
        clear hb
        generalize fs[k].id = x0 at *
        generalize fs[k].A = x1 at *
        generalize fs[k].n = x2 at *
        generalize fs[k].c = x3 at *
        generalize fs[k].safe = x4 at *
        go_wp2_with fail
        refine (hSz.out _).mono ?_
        rintro e v ⟨r, rfl, hr, hb1⟩
        have HB1 := Lib.hid (HB.out.trans (hb1.mono hz))
        clear hb1
        rcases hr with rfl | ⟨hr0, hr1⟩
        · go_wp2_with fail
          go_ret
          exact sz_no HB1.out
        · have HR1 := Lib.hid (show r = left - nf - (usedD (fs.take (k + 1)) : Nat) by rw [hr1, HL.out, HS.out]; omega)
          have hr2 : r ≤ 1048576 := by omega
          clear hr1
          go_wp2_with fail
          exact ⟨⟨k + 1, r, by omega, by go_num, rfl, hr0, hr2, HR1, HB1.out⟩, by simp [intOf]; omega⟩
      · obtain rfl : nf = k := by omega
        have e : fs.take nf = fs := List.take_of_length_le (by rw [HFL.out]; exact Nat.le_refl _)
        rw [e] at HL
        have HB := Lib.hid hb
        clear hb
        go_wp2_with fail
        go_ret
        exact sz_yes hL0 HL.out HB.out

set_option maxRecDepth 100000 in
set_option maxHeartbeats 1600000 in
theorem szLinkS_any (K : Option Addr) (nk ck : Nat) (ks : List LinkD) (left : Int) (w : World) (hk : RdL w w.heap.size K ks) (hkl : ks.length = nk) (hkn : nk ≤ 9223372036854775807) (hks : ∀ x ∈ ks, x.1.size ≤ 9223372036854775807) (h0 : 0 ≤ left) (h1 : left ≤ 1048576) :
    Calls Tryd.prog 19 #[.slice K nk ck, .int .i64 left] w (Sz (fun r => r ≤ left - nk) w.heap.size w) := by
  have HF := Lib.hid hk
  have HFL := Lib.hid hkl
  have HFS := Lib.hid hks
  clear hk hkl hks
  by_cases hneg : left - (nk : Int) < 0
  · go_enter Tryd.func19, Tryd.ntmps19
    go_wp2_with fail
    go_ret
    exact sz_no (Below.refl _ _)
  · have hpos : 0 ≤ left - (nk : Int) := by omega
    go_enter Tryd.func19, Tryd.ntmps19
    go_wp2_with fail
    go_loopw [1, 5] (fun l i wr => ∃ (k : Nat) (L : Int), k ≤ nk ∧ i = .int .i64 k ∧ l = .int .i64 L ∧ 0 ≤ L ∧ L ≤ left - nk ∧ Below w.heap.size w wr) (fun _ i _ => nk - (intOf i).toNat)
    case atStart => exact ⟨0, _, Nat.zero_le _, rfl, rfl, hpos, Int.le_refl _, Below.refl _ _⟩
    case round =>
      obtain ⟨k, L, hk, rfl, rfl, hL0, hL1, hb⟩ := hrel
      have hz : w.heap.size ≤ wr.heap.size := hb.size
      by_cases hlt : k < nk
      · have hlt' : k < ks.length := by rw [HFL.out]; exact hlt
        obtain ⟨b, o, rfl, hB, hc0, hc1⟩ := (HF.out.below (Nat.le_refl _) hb).at_ hlt'
        have HB := Lib.hid hb
        have hSz := Lib.hid (fun W => szLink_any ks[k].1 ks[k].2 L W (HFS.out _ (List.getElem_mem hlt')) hL0 (by omega))
        clear hb
        generalize ks[k].1 = x0 at *
        generalize ks[k].2 = x1 at *
        go_wp2_with fail
        refine (hSz.out _).mono ?_
        rintro e v ⟨r, rfl, hr, hb1⟩
        have HB1 := Lib.hid (HB.out.trans (hb1.mono hz))
        clear hb1
        rcases hr with rfl | ⟨hr0, hr1⟩
        · go_wp2_with fail
          go_ret
          exact sz_no HB1.out
        · have hr2 : r ≤ left - nk := by omega
          go_wp2_with fail
          exact ⟨⟨k + 1, r, by omega, by go_num, rfl, hr0, hr2, HB1.out⟩, by simp [intOf]; omega⟩
      · obtain rfl : nk = k := by omega
        have HB := Lib.hid hb
        clear hb
        go_wp2_with fail
        go_ret
        exact sz_yes hL0 hL1 HB.out

set_option maxRecDepth 100000 in
set_option maxHeartbeats 1600000 in
theorem szTurnS_any (T : Option Addr) (nt ct : Nat) (ts : List TurnD) (left : Int) (w : World) (hk : RdT w w.heap.size T ts) (hkl : ts.length = nt) (hkn : nt ≤ 9223372036854775807) (hks : ∀ x ∈ ts, x.name.size ≤ 9223372036854775807 ∧ x.to_.size ≤ 9223372036854775807) (h0 : 0 ≤ left) (h1 : left ≤ 1048576) :
    Calls Tryd.prog 20 #[.slice T nt ct, .int .i64 left] w (Sz (fun r => r ≤ left - nt) w.heap.size w) := by
  have HF := Lib.hid hk
  have HFL := Lib.hid hkl
  have HFS := Lib.hid hks
  clear hk hkl hks
  by_cases hneg : left - (nt : Int) < 0
  · go_enter Tryd.func20, Tryd.ntmps20
    go_wp2_with fail
    go_ret
    exact sz_no (Below.refl _ _)
  · have hpos : 0 ≤ left - (nt : Int) := by omega
    go_enter Tryd.func20, Tryd.ntmps20
    go_wp2_with fail
    go_loopw [1, 5] (fun l i wr => ∃ (k : Nat) (L : Int), k ≤ nt ∧ i = .int .i64 k ∧ l = .int .i64 L ∧ 0 ≤ L ∧ L ≤ left - nt ∧ Below w.heap.size w wr) (fun _ i _ => nt - (intOf i).toNat)
    case atStart => exact ⟨0, _, Nat.zero_le _, rfl, rfl, hpos, Int.le_refl _, Below.refl _ _⟩
    case round =>
      obtain ⟨k, L, hk, rfl, rfl, hL0, hL1, hb⟩ := hrel
      have hz : w.heap.size ≤ wr.heap.size := hb.size
      by_cases hlt : k < nt
      · have hlt' : k < ts.length := by rw [HFL.out]; exact hlt
        obtain ⟨b, o, rfl, hB, hc0, hc1, hc2, hc3⟩ := (HF.out.below (Nat.le_refl _) hb).at_ hlt'
        have HB := Lib.hid hb
        have hSz := Lib.hid (fun W => szTurn_any ts[k].kind ts[k].name ts[k].to_ ts[k].id L W (HFS.out _ (List.getElem_mem hlt')).1 (HFS.out _ (List.getElem_mem hlt')).2 hL0 (by omega))
        clear hb
        generalize ts[k].kind = x0 at *
        generalize ts[k].name = x1 at *
        generalize ts[k].to_ = x2 at *
        generalize ts[k].id = x3 at *
        go_wp2_with fail
        refine (hSz.out _).mono ?_
        rintro e v ⟨r, rfl, hr, hb1⟩
        have HB1 := Lib.hid (HB.out.trans (hb1.mono hz))
        clear hb1
        rcases hr with rfl | ⟨hr0, hr1⟩
        · go_wp2_with fail
          go_ret
          exact sz_no HB1.out
        · have hr2 : r ≤ left - nt := by omega
          go_wp2_with fail
          exact ⟨⟨k + 1, r, by omega, by go_num, rfl, hr0, hr2, HB1.out⟩, by simp [intOf]; omega⟩
      · obtain rfl : nt = k := by omega
        have HB := Lib.hid hb
        clear hb
        go_wp2_with fail
        go_ret
        exact sz_yes hL0 hL1 HB.out

set_option maxRecDepth 100000 in
set_option maxHeartbeats 1600000 in
theorem szDisk_any (room fuse next : Int) (F : Option Addr) (nf cf : Nat) (K : Option Addr) (nk ck : Nat) (T : Option Addr) (nt ct : Nat) (fs : List FileD) (ks : List LinkD) (ts : List TurnD) (left : Int) (w : World)
    (hf : RdF w w.heap.size F fs) (hfl : fs.length = nf) (hfn : nf ≤ 9223372036854775807) (hfs : ∀ x ∈ fs, x.n ≤ 9223372036854775807)
    (hk : RdL w w.heap.size K ks) (hkl : ks.length = nk) (hkn : nk ≤ 9223372036854775807) (hks : ∀ x ∈ ks, x.1.size ≤ 9223372036854775807)
    (ht : RdT w w.heap.size T ts) (htl : ts.length = nt) (htn : nt ≤ 9223372036854775807) (hts : ∀ x ∈ ts, x.name.size ≤ 9223372036854775807 ∧ x.to_.size ≤ 9223372036854775807) (h0 : 0 ≤ left) (h1 : left ≤ 1048576) :
    Calls Tryd.prog 9 #[.agg #[.int .i64 room, .int .i64 fuse, .int .i64 next, .slice F nf cf, .slice K nk ck, .slice T nt ct], .int .i64 left] w (Sz (fun r => r ≤ left - nf - (usedD fs : Nat) - nk - nt) w.heap.size w) := by
  have hb0 := Lib.hid ((Below.refl w.heap.size w).alloc (Nat.le_refl _) (.cells #[.int .i64 room, .int .i64 fuse, .int .i64 next, .slice F nf cf, .slice K nk ck, .slice T nt ct] 26))
  have hbC := Lib.hid (show ∀ j v, #[Value.int .i64 room, .int .i64 fuse, .int .i64 next, .slice F nf cf, .slice K nk ck, .slice T nt ct][j]? = some v → (w.alloc (.cells #[.int .i64 room, .int .i64 fuse, .int .i64 next, .slice F nf cf, .slice K nk ck, .slice T nt ct] 26)).cell? ⟨w.heap.size, j, none⟩ = some v from fun j v h => by rw [World.cell?_alloc_at _ _ _ _ rfl]; exact h)
  have RF := Lib.hid (fun W (h : Below w.heap.size w W) => (hf.below (Nat.le_refl _) h).more h.size)
  have RL := Lib.hid (fun W (h : Below w.heap.size w W) => (hk.below (Nat.le_refl _) h).more h.size)
  have RT := Lib.hid (fun W (h : Below w.heap.size w W) => (ht.below (Nat.le_refl _) h).more h.size)
  have HF := Lib.hid (fun W (h : RdF W W.heap.size F fs) => szFileS_any F nf cf fs left W h hfl hfn hfs h0 h1)
  have HL := Lib.hid (fun W (l : Int) (h : RdL W W.heap.size K ks) (a : 0 ≤ l) (b : l ≤ 1048576) => szLinkS_any K nk ck ks l W h hkl hkn hks a b)
  have HT := Lib.hid (fun W (l : Int) (h : RdT W W.heap.size T ts) (a : 0 ≤ l) (b : l ≤ 1048576) => szTurnS_any T nt ct ts l W h htl htn hts a b)
  clear hf hfl hfs hk hkl hks ht htl hts
  go_enter Tryd.func9, Tryd.ntmps9
  go_wp2_with fail
  refine (HF.out _ (RF.out _ hb0.out)).mono ?_
  rintro e v1 ⟨r1, rfl, hr1, hb1⟩
  have hbm1 : Below (w.heap.size + 1) _ v1 := hb1.mono (by simp)
  have p4 : v1.cell? ⟨w.heap.size, 4, none⟩ = some (.slice K nk ck) := (hbm1.cell (p := ⟨w.heap.size, 4, none⟩) (by show w.heap.size < w.heap.size + 1; omega)).trans (hbC.out 4 _ rfl)
  have p5 : v1.cell? ⟨w.heap.size, 5, none⟩ = some (.slice T nt ct) := (hbm1.cell (p := ⟨w.heap.size, 5, none⟩) (by show w.heap.size < w.heap.size + 1; omega)).trans (hbC.out 5 _ rfl)
  have BW1 := Lib.hid (hb0.out.trans (hbm1.mono (by omega)))
  have hz1 : w.heap.size < v1.heap.size := by have := hb1.size; simp at this; omega
  clear hb1 hbm1
  rcases hr1 with rfl | ⟨hr1, he1⟩
  · go_wp2_with fail
    go_ret
    exact sz_no BW1.out
  · have hle1 : r1 ≤ left - nf - (usedD fs : Nat) := by omega
    have hle0 : r1 ≤ 1048576 := by omega
    have HU := Lib.hid (show ∀ r : Int, r ≤ r1 - nk - nt → r ≤ left - nf - (usedD fs : Nat) - nk - nt from fun r h => by omega)
    clear he1 hle1
    go_wp2_with fail
    refine (HL.out _ r1 (RL.out _ BW1.out) hr1 hle0).mono ?_
    rintro e v2 ⟨r2, rfl, hr2, hb2⟩
    have q5 : v2.cell? ⟨w.heap.size, 5, none⟩ = some (.slice T nt ct) := (hb2.cell (p := ⟨w.heap.size, 5, none⟩) hz1).trans p5
    have BW2 := Lib.hid (BW1.out.trans (hb2.mono (by omega)))
    clear hb2 p4 p5
    rcases hr2 with rfl | ⟨hr2, he2⟩
    · go_wp2_with fail
      go_ret
      exact sz_no BW2.out
    · go_wp2_with fail
      refine (HT.out _ r2 (RT.out _ BW2.out) hr2 (by omega)).mono ?_
      rintro e v3 ⟨r3, rfl, hr3, hb3⟩
      have hz2 : w.heap.size ≤ v2.heap.size := BW2.out.size
      have BW3 := Lib.hid (BW2.out.trans (hb3.mono (by omega)))
      clear hb3 q5
      rcases hr3 with rfl | ⟨hr3, he3⟩
      · go_wp2_with fail
        go_ret
        exact sz_no BW3.out
      · go_wp2_with fail
        go_ret
        exact sz_yes hr3 (HU.out _ (by omega)) BW3.out
end Go.Proofs.YtckiloacbanbmaaDoor.DOk
