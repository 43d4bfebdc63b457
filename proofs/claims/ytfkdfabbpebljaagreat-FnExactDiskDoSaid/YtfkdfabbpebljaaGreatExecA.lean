/- The program's change of a disk: the write of a file of a name. -/
import Derived.Test.YtfkdfabbpebljaaGreatExecW
import Derived.Deep.RegionWith
import Derived.Deep.RegionLaw
import Derived.Deep.Cut
import Derived.IntWalk
import Derived.StillTailTactics
import Derived.Outline
namespace Go.Proofs.YtfkdfabbpebljaaGreat.DOk
open Go.RowKit Go.Proofs.YtfkdfabbpebljaaGreat.Bytes Go.Proofs.YtfkdfabbpebljaaGreat.Rows_ Go.Maps Go.WideMaps
set_option linter.unusedVariables false
set_option maxRecDepth 100000 in
set_option maxHeartbeats 3200000 in
theorem exec_write (b base B : Nat) (room fuse next : Int) (g nf cf : Nat) (K : Option Addr) (nk ck : Nat) (T : Option Addr) (nt ct : Nat) (pre post : List FileD) (f : FileD) (ks : List LinkD) (ts : List TurnD) (i0 : Nat) (z : Int) (w : World)
    (hb : BoxW w b #[.int .i64 room, .int .i64 fuse, .int .i64 next, .slice (some ⟨g, 0, none⟩) nf cf, .slice K nk ck, .slice T nt ct]) (ho : OwnD w base (some ⟨g, 0, none⟩) nf cf (pre ++ [f] ++ post) K nk ck ks T nt ct ts) (hB : B ≤ b) (hB2 : B ≤ base) (hbw : base ≤ w.heap.size) (hnf : nf ≤ 2000) (hi0 : pre.length = i0) (hno : ∀ x ∈ pre, x.id ≠ z) (hyes : f.id = z) (mb nn : Nat) (D : Dat) (hM : OwnM w mb nn D) (name to_ : ByteArray) (h1 : name.size ≤ maxLen) (hz : D.atKey (kS name) (vI 0) = vI z) (A : Option Addr) (n c sz : Nat) (ys : List Int) (hr : Rd w w.heap.size A ys) (hl : ys.length = n) (hA : A = none → n = 0 ∧ c = 0) (hnc : n ≤ c) (hn : n ≤ 1048576) (hu : ((usedD (pre ++ [f] ++ post) : Nat) : Int) ≤ room) (hroom : room ≤ 1048576) (hfn : f.n ≤ 1099511627776)
    (hsz_ : (if room - ((usedD (pre ++ [f] ++ post) : Nat) : Int) < (n : Int) then room - ((usedD (pre ++ [f] ++ post) : Nat) : Int) else (n : Int)) = (sz : Int)) (hszn : sz ≤ n) :
    Calls Tryz.prog 37 #[.pointer (some ⟨b, 0, none⟩), .map (some mb), .agg #[.int .i64 2, .string name, .string to_, .slice A n c]] w fun e w' =>
      e = .returned (.int .i64 (if sz < n then 5 else 0)) ∧ Below B w w' ∧ BoxW w' b #[.int .i64 room, .int .i64 fuse, .int .i64 next, .slice (some ⟨g, 0, none⟩) nf cf, .slice K nk ck, .slice T nt ct] ∧ WrD w' base g nf cf pre post f sz ys K nk ck ks T nt ct ts := by
  obtain ⟨cd, hcd⟩ : ∃ cd : Int, cd = (if sz < n then 5 else 0) := ⟨_, rfl⟩
  rw [← hcd]
  obtain ⟨W, hW⟩ : ∃ W, W = w.alloc (.cells #[.int .i64 2, .string name, .string to_, .slice A n c] 40) := ⟨_, rfl⟩
  have hbW : Below w.heap.size w W := by rw [hW]; exact (Below.refl _ _).alloc (Nat.le_refl _) _
  have hBW := Lib.hid (hbW.mono (Nat.le_trans hB2 hbw))
  have hlt := hb.lt
  have HX := hb.below hbW hlt
  have HO := ho.below (Nat.le_refl _) hbW
  have hMW := hM.below hbW (Nat.le_refl _)
  have lk1 := lk_run hMW h1 hz
  have lk2 := lk_run (W := W.drew) hMW h1 hz
  have q0 : W.cell? ⟨w.heap.size, 0, none⟩ = some (.int .i64 2) := by rw [hW, World.cell?_alloc_at _ _ _ _ rfl]; rfl
  have q1 : W.cell? ⟨w.heap.size, 1, none⟩ = some (.string name) := by rw [hW, World.cell?_alloc_at _ _ _ _ rfl]; rfl
  have q3 : W.cell? ⟨w.heap.size, 3, none⟩ = some (.slice A n c) := by rw [hW, World.cell?_alloc_at _ _ _ _ rfl]; rfl
  have hsz : w.heap.size < W.heap.size := by rw [hW]; simp
  have HWR := Lib.hid (show Calls Tryz.prog 72 #[.pointer (some ⟨b, 0, none⟩), .int .i64 z, .slice A n c] W (fun e w' =>
      e = .returned (.int .i64 cd) ∧ Below B W w' ∧ BoxW w' b #[.int .i64 room, .int .i64 fuse, .int .i64 next, .slice (some ⟨g, 0, none⟩) nf cf, .slice K nk ck, .slice T nt ct] ∧ WrD w' base g nf cf pre post f sz ys K nk ck ks T nt ct ts) from by
    rw [hcd]
    exact write_any b base B room fuse next g nf cf K nk ck T nt ct pre post f ks ts i0 z W HX HO hB hB2 (by have := hbW.size; exact Nat.le_trans hbw this) hnf hi0 hno hyes A n c sz ys ((hr.below (Nat.le_refl _) hbW).more hbW.size) hl hA hnc hn hu hroom hfn hsz_ hszn)
  have HW := Lib.hid hW.symm
  clear hW hbW hb ho hM hMW hno hyes hz hr hl hA HX HO hu hsz_ hroom hcd
  go_enter Tryz.func37, Tryz.ntmps37
  go_upto_region 1 with fail
  rw [HW.out]
  go_upto_region 7 with fail
  go_wp2_with fail
  refine HWR.out.mono ?_
  rintro e v1 ⟨rfl, hv, hx, ho⟩
  have HD := Lib.hid (And.intro hx ho)
  have HB := Lib.hid (hBW.out.trans hv)
  clear hx ho hv
  go_wp2_with fail
  go_ret
  exact ⟨rfl, HB.out, HD.out.1, HD.out.2⟩
end Go.Proofs.YtfkdfabbpebljaaGreat.DOk
