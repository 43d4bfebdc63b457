/- The laws' helper that compares two disks, where they hold the same. -/
import Derived.Test.YtfkdfabbpebljaaGreatKitA
import Derived.Deep.RegionWith
namespace Go.Proofs.YtfkdfabbpebljaaGreat.DOk
open Go.RowKit Go.Proofs.YtfkdfabbpebljaaGreat.Bytes Go.Proofs.YtfkdfabbpebljaaGreat.Rows_
set_option linter.unusedVariables false

/-- the bytes of the files -/
def RdB (w : World) (B : Nat) (fs : List FileD) : Prop := ∀ f ∈ fs, Rd w B f.A f.bytes ∧ f.bytes.length = f.n
theorem RdB.below {w w' : World} {B B' : Nat} {fs : List FileD} (h : RdB w B fs) (hB : B ≤ B') (hb : Below B' w w') : RdB w' B fs := fun f hf => ⟨(h f hf).1.below hB hb, (h f hf).2⟩
theorem RdB.more {w : World} {B B' : Nat} {fs : List FileD} (h : RdB w B fs) (hB : B ≤ B') : RdB w B' fs := fun f hf => ⟨(h f hf).1.more hB, (h f hf).2⟩
def SameF (fs gs : List FileD) : Prop := gs.length = fs.length ∧ ∀ i (h : i < fs.length) (h' : i < gs.length), gs[i].id = fs[i].id ∧ gs[i].n = fs[i].n ∧ gs[i].safe = fs[i].safe ∧ gs[i].bytes = fs[i].bytes

set_option maxRecDepth 100000 in
set_option maxHeartbeats 1600000 in
theorem eqFile_yes (id safe : Int) (A A' : Option Addr) (n c c' : Nat) (zs : List Int) (w : World) (hx : Rd w w.heap.size A zs) (hy : Rd w w.heap.size A' zs) (hl : zs.length = n) (hn : n ≤ 1099511627776) :
    Calls Tryz.prog 75 #[.agg #[.int .i64 id, .slice A n c, .int .i64 safe], .agg #[.int .i64 id, .slice A' n c', .int .i64 safe]] w fun e w' => e = .returned (.bool true) ∧ Below w.heap.size w w' := by
  have e1 : (id != id) = false := by simp
  have e2 : (safe != safe) = false := by simp
  have HX := Lib.hid hx
  have HY := Lib.hid hy
  have HL := Lib.hid hl
  have hb0 := Lib.hid (((Below.refl w.heap.size w).alloc (Nat.le_refl _) (.cells #[.int .i64 id, .slice A n c, .int .i64 safe] 58)).alloc (by simp) (.cells #[.int .i64 id, .slice A' n c', .int .i64 safe] 58))
  clear hx hy hl
  go_enter Tryz.func75, Tryz.ntmps75
  go_wp2_with fail
  refine (eqByteS_yes A A' n c n c' zs _ ((HX.out.below (Nat.le_refl _) hb0.out).more (by simp; omega)) ((HY.out.below (Nat.le_refl _) hb0.out).more (by simp; omega)) HL.out HL.out (by omega)).mono ?_
  rintro e v1 ⟨rfl, hb1⟩
  have hc1 := (bcell hb1).1
  have h2 : w.heap.size < w.heap.size + 1 + 1 := by omega
  have HB1 := Lib.hid hb1
  clear hb1
  go_wp2_with fail
  go_ret
  exact ⟨rfl, hb0.out.trans (HB1.out.mono (by simp; omega))⟩

set_option maxRecDepth 100000 in
set_option maxHeartbeats 800000 in
theorem eqLink_yes (nm : ByteArray) (id : Int) (w : World) :
    Calls Tryz.prog 76 #[.agg #[.string nm, .int .i64 id], .agg #[.string nm, .int .i64 id]] w fun e w' => e = .returned (.bool true) ∧ Below w.heap.size w w' := by
  have e1 : (id != id) = false := by simp
  have e2 : (!(nm.toList == nm.toList)) = false := by simp
  go_enter Tryz.func76, Tryz.ntmps76
  go_wp2_with fail
  go_ret
  exact ⟨rfl, ((Below.refl _ _).alloc (Nat.le_refl _) _).alloc (by simp) _⟩

set_option maxRecDepth 100000 in
set_option maxHeartbeats 800000 in
theorem eqTurn_yes (kind : Int) (nm to_ : ByteArray) (id : Int) (w : World) :
    Calls Tryz.prog 77 #[.agg #[.int .i64 kind, .string nm, .string to_, .int .i64 id], .agg #[.int .i64 kind, .string nm, .string to_, .int .i64 id]] w fun e w' => e = .returned (.bool true) ∧ Below w.heap.size w w' := by
  have e1 : (id != id) = false := by simp
  have e0 : (kind != kind) = false := by simp
  have e2 : (!(nm.toList == nm.toList)) = false := by simp
  have e3 : (!(to_.toList == to_.toList)) = false := by simp
  go_enter Tryz.func77, Tryz.ntmps77
  go_wp2_with fail
  go_ret
  exact ⟨rfl, ((Below.refl _ _).alloc (Nat.le_refl _) _).alloc (by simp) _⟩

set_option maxRecDepth 100000 in
set_option maxHeartbeats 3200000 in
theorem eqFileS_yes (F G : Option Addr) (n c c' : Nat) (fs gs : List FileD) (w : World) (hf : RdF w w.heap.size F fs) (hg : RdF w w.heap.size G gs) (hl : fs.length = n) (hS : SameF fs gs) (hbf : RdB w w.heap.size fs) (hbg : RdB w w.heap.size gs) (hn : n ≤ 1099511627776) (hfn : ∀ f ∈ fs, f.n ≤ 1099511627776) :
    Calls Tryz.prog 38 #[.slice F n c, .slice G n c'] w fun e w' => e = .returned (.bool true) ∧ Below w.heap.size w w' := by
  have HF := Lib.hid hf
  have HG := Lib.hid hg
  have HL := Lib.hid hl
  have HS := Lib.hid hS
  have HBF := Lib.hid hbf
  have HBG := Lib.hid hbg
  have HFN := Lib.hid hfn
  have hnn : (n != n) = false := by simp
  clear hf hg hl hS hbf hbg hfn
  go_enter Tryz.func38, Tryz.ntmps38
  go_wp2_with fail
  go_loopw [5] (fun i wr => ∃ k : Nat, k ≤ n ∧ i = .int .i64 k ∧ Below w.heap.size w wr) (fun i _ => n - (intOf i).toNat)
  case atStart => exact ⟨0, Nat.zero_le _, rfl, Below.refl _ _⟩
  case round =>
    obtain ⟨k, hk, rfl, hb⟩ := hrel
    have hz : w.heap.size ≤ wr.heap.size := hb.size
    by_cases hlt : k < n
    · have hlf : k < fs.length := by rw [HL.out]; exact hlt
      have hlg : k < gs.length := by have := HS.out.1; omega
      obtain ⟨b, o, rfl, hB, hc0, hc1, hc2⟩ := (HF.out.below (Nat.le_refl _) hb).at_ hlf
      obtain ⟨b', o', rfl, hB', hd0, hd1, hd2⟩ := (HG.out.below (Nat.le_refl _) hb).at_ hlg
      obtain ⟨s1, s2, s3, s4⟩ := HS.out.2 k hlf hlg
      have r1 := (HBF.out _ (List.getElem_mem hlf))
      have r2 := (HBG.out _ (List.getElem_mem hlg))
      have r3 := HFN.out _ (List.getElem_mem hlf)
      rw [s4] at r2
      rw [s1] at hd0; rw [s2] at hd1; rw [s3] at hd2
      have HB := Lib.hid hb
      have R1 := Lib.hid ((r1.1.below (Nat.le_refl _) hb).more hz)
      have R2 := Lib.hid ((r2.1.below (Nat.le_refl _) hb).more hz)
      have R3 := Lib.hid r1.2
      clear s1 s2 s3 s4 r1 r2 hb
      generalize fs[k].id = x0 at *
      generalize fs[k].A = x1 at *
      generalize fs[k].n = x2 at *
      generalize fs[k].c = x3 at *
      generalize fs[k].safe = x4 at *
      generalize gs[k].A = y1 at *
      generalize gs[k].c = y3 at *
      generalize fs[k].bytes = zs at *
      go_wp2_with fail
      go_region_with ((go_at_call 75; refine (eqFile_yes x0 x4 x1 y1 x2 x3 y3 zs _ ?_ ?_ R3.out r3).mono ?_; exact R1.out; exact R2.out; rintro e v1 ⟨rfl, hb1'⟩; have hb1 : Below wr.heap.size wr v1 := undrew hb1'; clear hb1'))
      all_goals
        have HB1 := Lib.hid (HB.out.trans (hb1.mono hz))
        clear hb1
        go_wp2_with fail
        exact ⟨⟨k + 1, by omega, by go_num, HB1.out⟩, by simp [intOf]; omega⟩
    · obtain rfl : n = k := by omega
      go_wp2_with fail
      go_ret
      exact ⟨rfl, hb⟩

set_option maxRecDepth 100000 in
set_option maxHeartbeats 3200000 in
theorem eqLinkS_yes (F G : Option Addr) (n c c' : Nat) (ks : List LinkD) (w : World) (hf : RdL w w.heap.size F ks) (hg : RdL w w.heap.size G ks) (hl : ks.length = n) (hn : n ≤ 1099511627776) :
    Calls Tryz.prog 39 #[.slice F n c, .slice G n c'] w fun e w' => e = .returned (.bool true) ∧ Below w.heap.size w w' := by
  have HF := Lib.hid hf
  have HG := Lib.hid hg
  have HL := Lib.hid hl
  have hnn : (n != n) = false := by simp
  clear hf hg hl
  go_enter Tryz.func39, Tryz.ntmps39
  go_wp2_with fail
  go_loopw [5] (fun i wr => ∃ k : Nat, k ≤ n ∧ i = .int .i64 k ∧ Below w.heap.size w wr) (fun i _ => n - (intOf i).toNat)
  case atStart => exact ⟨0, Nat.zero_le _, rfl, Below.refl _ _⟩
  case round =>
    obtain ⟨k, hk, rfl, hb⟩ := hrel
    have hz : w.heap.size ≤ wr.heap.size := hb.size
    by_cases hlt : k < n
    · have hlf : k < ks.length := by rw [HL.out]; exact hlt
      obtain ⟨b, o, rfl, hB, hc0, hc1⟩ := (HF.out.below (Nat.le_refl _) hb).at_ hlf
      obtain ⟨b', o', rfl, hB', hd0, hd1⟩ := (HG.out.below (Nat.le_refl _) hb).at_ hlf
      have HB := Lib.hid hb
      clear hb
      generalize ks[k].1 = x0 at *
      generalize ks[k].2 = x1 at *
      go_wp2_with fail
      go_region_with ((go_at_call 76; refine (eqLink_yes x0 x1 _).mono ?_; rintro e v1 ⟨rfl, hb1'⟩; have hb1 : Below wr.heap.size wr v1 := undrew hb1'; clear hb1'))
      all_goals
        have HB1 := Lib.hid (HB.out.trans (hb1.mono hz))
        clear hb1
        go_wp2_with fail
        exact ⟨⟨k + 1, by omega, by go_num, HB1.out⟩, by simp [intOf]; omega⟩
    · obtain rfl : n = k := by omega
      go_wp2_with fail
      go_ret
      exact ⟨rfl, hb⟩

set_option maxRecDepth 100000 in
set_option maxHeartbeats 3200000 in
theorem eqTurnS_yes (F G : Option Addr) (n c c' : Nat) (ts : List TurnD) (w : World) (hf : RdT w w.heap.size F ts) (hg : RdT w w.heap.size G ts) (hl : ts.length = n) (hn : n ≤ 1099511627776) :
    Calls Tryz.prog 40 #[.slice F n c, .slice G n c'] w fun e w' => e = .returned (.bool true) ∧ Below w.heap.size w w' := by
  have HF := Lib.hid hf
  have HG := Lib.hid hg
  have HL := Lib.hid hl
  have hnn : (n != n) = false := by simp
  clear hf hg hl
  go_enter Tryz.func40, Tryz.ntmps40
  go_wp2_with fail
  go_loopw [5] (fun i wr => ∃ k : Nat, k ≤ n ∧ i = .int .i64 k ∧ Below w.heap.size w wr) (fun i _ => n - (intOf i).toNat)
  case atStart => exact ⟨0, Nat.zero_le _, rfl, Below.refl _ _⟩
  case round =>
    obtain ⟨k, hk, rfl, hb⟩ := hrel
    have hz : w.heap.size ≤ wr.heap.size := hb.size
    by_cases hlt : k < n
    · have hlf : k < ts.length := by rw [HL.out]; exact hlt
      obtain ⟨b, o, rfl, hB, hc0, hc1, hc2, hc3⟩ := (HF.out.below (Nat.le_refl _) hb).at_ hlf
      obtain ⟨b', o', rfl, hB', hd0, hd1, hd2, hd3⟩ := (HG.out.below (Nat.le_refl _) hb).at_ hlf
      have HB := Lib.hid hb
      clear hb
      generalize ts[k].kind = x0 at *
      generalize ts[k].name = x1 at *
      generalize ts[k].to_ = x2 at *
      generalize ts[k].id = x3 at *
      go_wp2_with fail
      go_region_with ((go_at_call 77; refine (eqTurn_yes x0 x1 x2 x3 _).mono ?_; rintro e v1 ⟨rfl, hb1'⟩; have hb1 : Below wr.heap.size wr v1 := undrew hb1'; clear hb1'))
      all_goals
        have HB1 := Lib.hid (HB.out.trans (hb1.mono hz))
        clear hb1
        go_wp2_with fail
        exact ⟨⟨k + 1, by omega, by go_num, HB1.out⟩, by simp [intOf]; omega⟩
    · obtain rfl : n = k := by omega
      go_wp2_with fail
      go_ret
      exact ⟨rfl, hb⟩

set_option maxRecDepth 100000 in
set_option maxHeartbeats 3200000 in
theorem eqDisk_yes (room fuse next : Int) (F G : Option Addr) (nf cf cg : Nat) (K L : Option Addr) (nk ck cl : Nat) (T U : Option Addr) (nt ct cu : Nat) (fs gs : List FileD) (ks : List LinkD) (ts : List TurnD) (w : World)
    (hf : RdF w w.heap.size F fs) (hg : RdF w w.heap.size G gs) (hl : fs.length = nf) (hS : SameF fs gs) (hbf : RdB w w.heap.size fs) (hbg : RdB w w.heap.size gs) (hn : nf ≤ 1099511627776) (hfn : ∀ f ∈ fs, f.n ≤ 1099511627776)
    (hk : RdL w w.heap.size K ks) (hk' : RdL w w.heap.size L ks) (hkl : ks.length = nk) (hkn : nk ≤ 1099511627776)
    (ht : RdT w w.heap.size T ts) (ht' : RdT w w.heap.size U ts) (htl : ts.length = nt) (htn : nt ≤ 1099511627776) :
    Calls Tryz.prog 10 #[.agg #[.int .i64 room, .int .i64 fuse, .int .i64 next, .slice F nf cf, .slice K nk ck, .slice T nt ct], .agg #[.int .i64 room, .int .i64 fuse, .int .i64 next, .slice G nf cg, .slice L nk cl, .slice U nt cu]] w fun e w' => e = .returned (.bool true) ∧ Below w.heap.size w w' := by
  have e1 : (room != room) = false := by simp
  have e2 : (fuse != fuse) = false := by simp
  have e3 : (next != next) = false := by simp
  have hb0 := Lib.hid (((Below.refl w.heap.size w).alloc (Nat.le_refl _) (.cells #[.int .i64 room, .int .i64 fuse, .int .i64 next, .slice F nf cf, .slice K nk ck, .slice T nt ct] 36)).alloc (by simp) (.cells #[.int .i64 room, .int .i64 fuse, .int .i64 next, .slice G nf cg, .slice L nk cl, .slice U nt cu] 36))
  have HF := Lib.hid (fun W (h : Below w.heap.size w W) => eqFileS_yes F G nf cf cg fs gs W ((hf.below (Nat.le_refl _) h).more h.size) ((hg.below (Nat.le_refl _) h).more h.size) hl hS ((hbf.below (Nat.le_refl _) h).more h.size) ((hbg.below (Nat.le_refl _) h).more h.size) hn hfn)
  have HK := Lib.hid (fun W (h : Below w.heap.size w W) => eqLinkS_yes K L nk ck cl ks W ((hk.below (Nat.le_refl _) h).more h.size) ((hk'.below (Nat.le_refl _) h).more h.size) hkl hkn)
  have HT := Lib.hid (fun W (h : Below w.heap.size w W) => eqTurnS_yes T U nt ct cu ts W ((ht.below (Nat.le_refl _) h).more h.size) ((ht'.below (Nat.le_refl _) h).more h.size) htl htn)
  clear hf hg hl hS hbf hbg hfn hk hk' hkl ht ht' htl
  go_enter Tryz.func10, Tryz.ntmps10
  go_wp2_with fail
  refine (HF.out _ hb0.out).mono ?_
  rintro e v1 ⟨rfl, hb1⟩
  have hc1 := (bcell hb1).1
  have h2 : w.heap.size < w.heap.size + 1 + 1 := by omega
  have HB1 := Lib.hid (hb0.out.trans (hb1.mono (by simp; omega)))
  have hz1 : w.heap.size + 1 < v1.heap.size := by have := hb1.size; simp at this; omega
  have p4 : v1.cell? ⟨w.heap.size, 4, none⟩ = some (.slice K nk ck) := by rw [hc1 _ _ (by simp; omega), World.cell?_alloc_past _ _ _ (by simp), World.cell?_alloc_at _ _ _ _ rfl]; rfl
  have p5 : v1.cell? ⟨w.heap.size, 5, none⟩ = some (.slice T nt ct) := by rw [hc1 _ _ (by simp; omega), World.cell?_alloc_past _ _ _ (by simp), World.cell?_alloc_at _ _ _ _ rfl]; rfl
  have r4 : v1.cell? ⟨w.heap.size + 1, 4, none⟩ = some (.slice L nk cl) := by rw [hc1 _ _ (by simp), World.cell?_alloc_at _ _ _ _ (by simp)]; rfl
  have r5 : v1.cell? ⟨w.heap.size + 1, 5, none⟩ = some (.slice U nt cu) := by rw [hc1 _ _ (by simp), World.cell?_alloc_at _ _ _ _ (by simp)]; rfl
  clear hb1 hc1
  go_wp2_with fail
  refine (HK.out _ HB1.out).mono ?_
  rintro e v2 ⟨rfl, hb2⟩
  have t5 : v2.cell? ⟨w.heap.size, 5, none⟩ = some (.slice T nt ct) := (hb2.cell (p := ⟨w.heap.size, 5, none⟩) (by show w.heap.size < v1.heap.size; omega)).trans p5
  have u5 : v2.cell? ⟨w.heap.size + 1, 5, none⟩ = some (.slice U nt cu) := (hb2.cell (p := ⟨w.heap.size + 1, 5, none⟩) hz1).trans r5
  have HB2 := Lib.hid (HB1.out.trans (hb2.mono (by omega)))
  clear hb2 p4 p5 r4 r5
  go_wp2_with fail
  refine (HT.out _ HB2.out).mono ?_
  rintro e v3 ⟨rfl, hb3⟩
  have hz2 : w.heap.size ≤ v2.heap.size := HB2.out.size
  have HB3 := Lib.hid (HB2.out.trans (hb3.mono (by omega)))
  clear hb3 t5 u5
  go_wp2_with fail
  go_ret
  exact ⟨rfl, HB3.out⟩
end Go.Proofs.YtfkdfabbpebljaaGreat.DOk
