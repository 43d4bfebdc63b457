/- The program's change of a disk: a removal. -/
import Derived.Test.YtfkdfabbpebljaaGreatExecT4
import Derived.Deep.RegionWith
import Derived.Deep.RegionLaw
import Derived.Deep.Cut
import Derived.IntWalk
import Derived.Outline
namespace Go.Proofs.YtfkdfabbpebljaaGreat.DOk
open Go.RowKit Go.Proofs.YtfkdfabbpebljaaGreat.Bytes Go.Proofs.YtfkdfabbpebljaaGreat.Rows_
set_option linter.unusedVariables false
set_option maxRecDepth 100000 in
set_option maxHeartbeats 20000000 in
theorem exec_turn5 (b base B : Nat) (room fuse next : Int) (F : Option Addr) (nf cf : Nat) (K : Option Addr) (nk ck : Nat) (T : Option Addr) (nt ct : Nat) (gs : List FileD) (ks : List LinkD) (ts : List TurnD) (m : Option Nat) (name to_ : ByteArray) (A : Option Addr) (n c : Nat) (w : World)
    (hb : BoxW w b #[.int .i64 room, .int .i64 fuse, .int .i64 next, .slice F nf cf, .slice K nk ck, .slice T nt ct]) (ho : OwnD w base F nf cf gs K nk ck ks T nt ct ts) (hB : B ≤ b) (hB2 : B ≤ base) (hbw : base ≤ w.heap.size) (hnf : nf ≤ 2000) (hnt : nt ≤ 2000) :
    Calls Tryz.prog 37 #[.pointer (some ⟨b, 0, none⟩), .map m, .agg #[.int .i64 5, .string name, .string to_, .slice A n c]] w fun e w' =>
      e = .returned (.int .i64 0) ∧ Below B w w' ∧ ∃ T' ct', BoxW w' b #[.int .i64 room, .int .i64 fuse, .int .i64 next, .slice F nf cf, .slice K nk ck, .slice T' (nt + 1) ct'] ∧ OwnD w' base F nf cf gs K nk ck ks T' (nt + 1) ct' (ts ++ [⟨5, name, to_, 0⟩]) := by
  obtain ⟨W, hW⟩ : ∃ W, W = w.alloc (.cells #[.int .i64 5, .string name, .string to_, .slice A n c] 40) := ⟨_, rfl⟩
  have hbW : Below w.heap.size w W := by rw [hW]; exact (Below.refl _ _).alloc (Nat.le_refl _) _
  have hBW := Lib.hid (hbW.mono (Nat.le_trans hB2 hbw))
  have hlt := hb.lt
  have HX := Lib.hid (hb.below hbW hlt)
  have HO := Lib.hid (ho.below (Nat.le_refl _) hbW)
  have q0 : W.cell? ⟨w.heap.size, 0, none⟩ = some (.int .i64 5) := by rw [hW, World.cell?_alloc_at _ _ _ _ rfl]; rfl
  have q1 : W.cell? ⟨w.heap.size, 1, none⟩ = some (.string name) := by rw [hW, World.cell?_alloc_at _ _ _ _ rfl]; rfl
  have q2 : W.cell? ⟨w.heap.size, 2, none⟩ = some (.string to_) := by rw [hW, World.cell?_alloc_at _ _ _ _ rfl]; rfl
  have x5 : W.cell? ⟨b, 5, none⟩ = some (.slice T nt ct) := HX.out.cell 5
  have hsz : w.heap.size < W.heap.size := by rw [hW]; simp
  have HW := Lib.hid hW.symm
  have hbW2 : base ≤ W.heap.size := by omega
  have hbW3 : b < W.heap.size := by omega
  clear hW hbW hb ho
  all_goals
    go_enter Tryz.func37, Tryz.ntmps37
    go_upto_region 1 with fail
    rw [HW.out]
    go_wp2_with fail
    go_region_law (refine step_turn (g := ⟨_, name, to_, 0⟩) rfl _ _ rfl rfl _ rfl rfl HO.out.drew.t (by omega) hbW2 ?_; intro T' ct' w1 ht' hb1 hg1; have hd := ownD_appT HX.out.drew HO.out.drew ht' hg1; have on1 : Only (fun i => (Value.slice T nt ct).ownBlock = some i) W.drew w1 := Only.grown hg1 fun i hi => hi; have hx1 := HX.out.drew.only on1 (fun e => box_ne_row HX.out HO.out.t (by decide) e); have x5' : w1.cell? ⟨b, 5, none⟩ = some (.slice T nt ct) := hx1.cell 5; have f5 := hx1.free 5; have HD := Lib.hid hd; have HB1 := Lib.hid ((hBW.out.drew).trans (hb1.mono hB2)); clear hd on1 hx1 ht' hb1 hg1)
    all_goals
      go_wp2_with fail
      go_ret
      exact ⟨rfl, HB1.out.setCell hB _, _, _, HD.out.1, HD.out.2⟩
end Go.Proofs.YtfkdfabbpebljaaGreat.DOk
