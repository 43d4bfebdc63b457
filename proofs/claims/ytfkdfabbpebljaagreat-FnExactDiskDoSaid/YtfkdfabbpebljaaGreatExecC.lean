/- The program's creation of a file. -/
import Derived.Test.YtfkdfabbpebljaaGreatExecT4
import Derived.Deep.RegionWith
import Derived.Deep.RegionLaw
import Derived.Deep.Cut
import Derived.IntWalk
import Derived.Outline
namespace Go.Proofs.YtfkdfabbpebljaaGreat.DOk
open Go.RowKit Go.Proofs.YtfkdfabbpebljaaGreat.Bytes Go.Proofs.YtfkdfabbpebljaaGreat.Rows_
set_option linter.unusedVariables false

set_option maxRecDepth 100000 in
set_option maxHeartbeats 40000000 in
theorem exec_create (b base B : Nat) (room fuse next : Int) (F : Option Addr) (nf cf : Nat) (K : Option Addr) (nk ck : Nat) (T : Option Addr) (nt ct : Nat) (gs : List FileD) (ks : List LinkD) (ts : List TurnD) (m : Option Nat) (name to_ : ByteArray) (A : Option Addr) (n c : Nat) (w : World)
    (hb : BoxW w b #[.int .i64 room, .int .i64 fuse, .int .i64 next, .slice F nf cf, .slice K nk ck, .slice T nt ct]) (ho : OwnD w base F nf cf gs K nk ck ks T nt ct ts) (hB : B ≤ b) (hB2 : B ≤ base) (hbw : base ≤ w.heap.size) (hnf : nf ≤ 2000) (hnt : nt ≤ 2000) (hnx : 0 ≤ next ∧ next ≤ 1000000) :
    Calls Tryz.prog 37 #[.pointer (some ⟨b, 0, none⟩), .map m, .agg #[.int .i64 1, .string name, .string to_, .slice A n c]] w fun e w' =>
      e = .returned (.int .i64 0) ∧ Below B w w' ∧ ∃ F' cf' T' ct', BoxW w' b #[.int .i64 room, .int .i64 fuse, .int .i64 (next + 1), .slice F' (nf + 1) cf', .slice K nk ck, .slice T' (nt + 1) ct'] ∧ OwnD w' base F' (nf + 1) cf' (gs ++ [⟨next, none, 0, 0, 0, []⟩]) K nk ck ks T' (nt + 1) ct' (ts ++ [⟨1, name, ByteArray.empty, next⟩]) := by
  obtain ⟨W, hW⟩ : ∃ W, W = w.alloc (.cells #[.int .i64 1, .string name, .string to_, .slice A n c] 40) := ⟨_, rfl⟩
  have hbW : Below w.heap.size w W := by rw [hW]; exact (Below.refl _ _).alloc (Nat.le_refl _) _
  have hBW := Lib.hid (hbW.mono (Nat.le_trans hB2 hbw))
  have hlt := hb.lt
  have HX := Lib.hid (hb.below hbW hlt)
  have HO := Lib.hid (ho.below (Nat.le_refl _) hbW)
  have q0 : W.cell? ⟨w.heap.size, 0, none⟩ = some (.int .i64 1) := by rw [hW, World.cell?_alloc_at _ _ _ _ rfl]; rfl
  have q1 : W.cell? ⟨w.heap.size, 1, none⟩ = some (.string name) := by rw [hW, World.cell?_alloc_at _ _ _ _ rfl]; rfl
  have x3 : W.cell? ⟨b, 3, none⟩ = some (.slice F nf cf) := HX.out.cell 3
  have x2 : W.cell? ⟨b, 2, none⟩ = some (.int .i64 next) := HX.out.cell 2
  have hsz : w.heap.size < W.heap.size := by rw [hW]; simp
  have HW := Lib.hid hW.symm
  have hbW2 : base ≤ W.heap.size := by omega
  have hbW3 : b < W.heap.size := by omega
  have HNF := Lib.hid (show some w.heap.size ≠ (Value.slice F nf cf).ownBlock from fun e => by have := (World.ownsRow.lt ho.f _ e.symm).2; omega)
  have HNT := Lib.hid (show some w.heap.size ≠ (Value.slice T nt ct).ownBlock from fun e => by have := (World.ownsRow.lt ho.t _ e.symm).2; omega)
  clear hW hbW hb ho
  go_enter Tryz.func37, Tryz.ntmps37
  go_upto_region 1 with fail
  rw [HW.out]
  go_upto_region 3 with fail
  go_cut [] (fun wx => (∃ F' cf', BoxW wx b #[.int .i64 room, .int .i64 fuse, .int .i64 next, .slice F' (nf + 1) cf', .slice K nk ck, .slice T nt ct] ∧ OwnD wx base F' (nf + 1) cf' (gs ++ [⟨next, none, 0, 0, 0, []⟩]) K nk ck ks T nt ct ts) ∧ Below B w wx ∧ wx.cell? ⟨w.heap.size, 1, none⟩ = some (.string name) ∧ w.heap.size < wx.heap.size)
  case first =>
    go_region_law (refine step_file (g := ⟨next, none, 0, 0, 0, []⟩) rfl _ _ rfl rfl _ rfl rfl HO.out.drew.f (by omega) hbW2 ?_; intro F' cf' w1 hf' hb1 hg1; have hd := ownD_appF HX.out.drew HO.out.drew hf' hg1 rfl rfl rfl rfl; have on1 : Only (fun i => (Value.slice F nf cf).ownBlock = some i) W.drew w1 := Only.grown hg1 fun i hi => hi; have hx1 := HX.out.drew.only on1 (fun e => box_ne_row HX.out HO.out.f (by decide) e); have x3' : w1.cell? ⟨b, 3, none⟩ = some (.slice F nf cf) := hx1.cell 3; have f3 := hx1.free 3; have HD := Lib.hid hd; have HB1 := Lib.hid ((hBW.out.drew).trans (hb1.mono hB2)); have HQ1 := Lib.hid ((hg1.cell_far ⟨w.heap.size, 1, none⟩ hsz HNF.out).trans q1); have hs1 : w.heap.size < w1.heap.size := Nat.lt_of_lt_of_le hsz hb1.size; clear hd on1 hx1 hf' hb1 hg1)
    all_goals
      go_wp2_with fail
      go_meet
      case rel => exact ⟨⟨_, _, HD.out.1, HD.out.2⟩, HB1.out.setCell hB _, (World.cell?_setCell_other _ _ _ _ (by intro e; injection e with e; omega)).trans HQ1.out, by simpa using hs1⟩
  case rest =>
    clear q0 q1 x3 x2 hsz hbW2 hbW3 HX HO hBW
    obtain ⟨⟨F', cf', hx2, ho2⟩, hb2, q1c, hs2⟩ := hcut
    have hbc2 : base ≤ wc.heap.size := by omega
    have hbc3 : b < wc.heap.size := hx2.lt
    have HX2 := Lib.hid hx2
    have HO2 := Lib.hid ho2
    have HB2 := Lib.hid hb2
    have x5 : wc.cell? ⟨b, 5, none⟩ = some (.slice T nt ct) := HX2.out.cell 5
    have x2 : wc.cell? ⟨b, 2, none⟩ = some (.int .i64 next) := HX2.out.cell 2
    clear hx2 ho2 hb2
    go_upto_region 4 with fail
    go_cut [] (fun wx => (∃ T' ct', BoxW wx b #[.int .i64 room, .int .i64 fuse, .int .i64 next, .slice F' (nf + 1) cf', .slice K nk ck, .slice T' (nt + 1) ct'] ∧ OwnD wx base F' (nf + 1) cf' (gs ++ [⟨next, none, 0, 0, 0, []⟩]) K nk ck ks T' (nt + 1) ct' (ts ++ [⟨1, name, ByteArray.empty, next⟩])) ∧ Below B w wx)
    case first =>
      go_region_law (refine step_turn (g := ⟨1, name, ByteArray.empty, next⟩) rfl _ _ rfl rfl _ rfl rfl HO2.out.drew.t (by omega) hbc2 ?_; intro T' ct' w1 ht' hb1 hg1; have hd := ownD_appT HX2.out.drew HO2.out.drew ht' hg1; have on1 : Only (fun i => (Value.slice T nt ct).ownBlock = some i) wc.drew w1 := Only.grown hg1 fun i hi => hi; have hx1 := HX2.out.drew.only on1 (fun e => box_ne_row HX2.out HO2.out.t (by decide) e); have x5' : w1.cell? ⟨b, 5, none⟩ = some (.slice T nt ct) := hx1.cell 5; have f5 := hx1.free 5; have HD := Lib.hid hd; have HB1 := Lib.hid ((HB2.out.drew).trans (hb1.mono hB2)); clear hd on1 hx1 ht' hb1 hg1)
      all_goals
        go_wp2_with fail
        go_meet
        case rel => exact ⟨⟨_, _, HD.out.1, HD.out.2⟩, HB1.out.setCell hB _⟩
    case rest =>
      clear x5 x2 hbc2 hbc3 q1c hs2
      obtain ⟨⟨T', ct', hx3, ho3⟩, hb3⟩ := hcut
      have x2 : wc.cell? ⟨b, 2, none⟩ = some (.int .i64 next) := hx3.cell 2
      have f2 := hx3.free 2
      have HD := Lib.hid (ownD_set2 hx3 ho3 (.int .i64 (next + 1)))
      have HB3 := Lib.hid hb3
      clear hx3 ho3 hb3 HX2 HO2 HB2
      go_wp2_with fail
      go_ret
      exact ⟨rfl, HB3.out.setCell hB _, _, _, _, _, HD.out.1, HD.out.2⟩
end Go.Proofs.YtfkdfabbpebljaaGreat.DOk
