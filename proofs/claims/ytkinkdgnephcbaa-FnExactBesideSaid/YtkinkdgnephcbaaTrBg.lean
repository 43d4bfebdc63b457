/- The program's isBeside. -/
import Derived.Test.YtkinkdgnephcbaaTrBf
import Derived.Deep.RegionWith
import Derived.Deep.RegionHeld3
namespace Go.Proofs.Ytkinkdgnephcbaa.Tr
open Go.RowKit Go.Proofs.Ytkinkdgnephcbaa.Bytes Go.Proofs.Ytkinkdgnephcbaa.Rows_ Go.Proofs.Ytkinkdgnephcbaa.RowK Go.Proofs.Ytkinkdgnephcbaa.DOk Go.Proofs.Ytkinkdgnephcbaa.Opq
open Tree
set_option linter.unusedVariables false
attribute [local go_sem ↓] Go.wp_at_zero Go.wp_at_succ
theorem RB.turned {p x y v h : Int} (hb : RB ⟨p, x, y, v, h⟩) : RB ⟨p, y, x, h, v⟩ := ⟨hb.2.1, hb.1, hb.2.2.2.1, hb.2.2.1, hb.2.2.2.2.2, hb.2.2.2.2.1⟩
theorem row_two {w W : World} {C D : Array Value} {S T : TypeId} (h : W = (w.alloc (.cells C S)).alloc (.cells D T)) : Below w.heap.size w W ∧ RowB W w.heap.size C ∧ RowB W (w.heap.size + 1) D := by
  subst h
  exact ⟨below_two w _ _ _ _, (RowB.new w _ _).alloc _, by have q := RowB.new (w.alloc (.cells C S)) D T; rwa [World.size_alloc] at q⟩
set_option maxRecDepth 100000 in
set_option maxHeartbeats 1600000 in
theorem isBeside_other (p x y v h p' x' y' v' h' s : Int) (w : World) (ha : RB ⟨p, x, y, v, h⟩) (hb : RB ⟨p', x', y', v', h'⟩) (n1 : ¬ s = 76) (n2 : ¬ s = 82) (n3 : ¬ s = 85) (n4 : ¬ s = 68) :
    Calls Try.prog 78 #[.agg #[.int .i64 p, .int .i64 x, .int .i64 y, .int .i64 v, .int .i64 h], .agg #[.int .i64 p', .int .i64 x', .int .i64 y', .int .i64 v', .int .i64 h'], .int .i64 s] w fun e u => e = .returned (.bool false) ∧ Below w.heap.size w u := by
  have HA := Lib.hid ha
  have HBr := Lib.hid hb
  clear ha hb
  go_enter Try.func78, Try.ntmps78
  go_wp2_with fail
  go_ret
  exact ⟨rfl, below_two w _ _ _ _⟩
set_option maxRecDepth 100000 in
set_option maxHeartbeats 1600000 in
theorem isBeside_76 (p x y v h p' x' y' v' h' : Int) (w : World) (ha : RB ⟨p, x, y, v, h⟩) (hb : RB ⟨p', x', y', v', h'⟩) :
    Calls Try.prog 78 #[.agg #[.int .i64 p, .int .i64 x, .int .i64 y, .int .i64 v, .int .i64 h], .agg #[.int .i64 p', .int .i64 x', .int .i64 y', .int .i64 v', .int .i64 h'], .int .i64 76] w fun e u => e = .returned (.bool (rightD ⟨p', x', y', v', h'⟩ ⟨p, x, y, v, h⟩)) ∧ Below w.heap.size w u := by
  have HA := Lib.hid ha
  have HBr := Lib.hid hb
  clear ha hb
  go_enter Try.func78, Try.ntmps78
  go_wp2_with fail
  refine (isRightOf_any _ _ _ _ _ _ _ _ _ _ _ HBr.out HA.out).mono ?_
  rintro e u ⟨rfl, hbu⟩
  have HBu := Lib.hid ((below_two w #[.int .i64 p, .int .i64 x, .int .i64 y, .int .i64 v, .int .i64 h] #[.int .i64 p', .int .i64 x', .int .i64 y', .int .i64 v', .int .i64 h'] 32 32).trans (hbu.mono (by simp; omega)))
  clear hbu
  go_wp2_with fail
  go_ret
  exact ⟨rfl, HBu.out⟩
set_option maxRecDepth 100000 in
set_option maxHeartbeats 1600000 in
theorem isBeside_82 (p x y v h p' x' y' v' h' : Int) (w : World) (ha : RB ⟨p, x, y, v, h⟩) (hb : RB ⟨p', x', y', v', h'⟩) :
    Calls Try.prog 78 #[.agg #[.int .i64 p, .int .i64 x, .int .i64 y, .int .i64 v, .int .i64 h], .agg #[.int .i64 p', .int .i64 x', .int .i64 y', .int .i64 v', .int .i64 h'], .int .i64 82] w fun e u => e = .returned (.bool (rightD ⟨p, x, y, v, h⟩ ⟨p', x', y', v', h'⟩)) ∧ Below w.heap.size w u := by
  have HA := Lib.hid ha
  have HBr := Lib.hid hb
  clear ha hb
  go_enter Try.func78, Try.ntmps78
  go_wp2_with fail
  refine (isRightOf_any _ _ _ _ _ _ _ _ _ _ _ HA.out HBr.out).mono ?_
  rintro e u ⟨rfl, hbu⟩
  have HBu := Lib.hid ((below_two w #[.int .i64 p, .int .i64 x, .int .i64 y, .int .i64 v, .int .i64 h] #[.int .i64 p', .int .i64 x', .int .i64 y', .int .i64 v', .int .i64 h'] 32 32).trans (hbu.mono (by simp; omega)))
  clear hbu
  go_wp2_with fail
  go_ret
  exact ⟨rfl, HBu.out⟩
set_option maxRecDepth 100000 in
set_option maxHeartbeats 1600000 in
theorem isBeside_85 (p x y v h p' x' y' v' h' : Int) (w : World) (ha : RB ⟨p, x, y, v, h⟩) (hb : RB ⟨p', x', y', v', h'⟩) :
    Calls Try.prog 78 #[.agg #[.int .i64 p, .int .i64 x, .int .i64 y, .int .i64 v, .int .i64 h], .agg #[.int .i64 p', .int .i64 x', .int .i64 y', .int .i64 v', .int .i64 h'], .int .i64 85] w fun e u => e = .returned (.bool (rightD ⟨p', y', x', h', v'⟩ ⟨p, y, x, h, v⟩)) ∧ Below w.heap.size w u := by
  have HA := Lib.hid ha
  have HBr := Lib.hid hb
  clear ha hb
  go_enter Try.func78, Try.ntmps78
  go_upto_region 7 with fail
  obtain ⟨W, hW⟩ : ∃ W, W = (w.alloc (.cells #[.int .i64 p, .int .i64 x, .int .i64 y, .int .i64 v, .int .i64 h] 32)).alloc (.cells #[.int .i64 p', .int .i64 x', .int .i64 y', .int .i64 v', .int .i64 h'] 32) := ⟨_, rfl⟩
  rw [← hW]
  obtain ⟨hB0, hX, hY⟩ := row_two hW
  clear hW
  have l0 := hX.lt
  have l1 := hY.lt
  have k0 : W.cell? ⟨w.heap.size, 0, none⟩ = some (.int .i64 p) := hX.cell 0
  have k1 : W.cell? ⟨w.heap.size, 1, none⟩ = some (.int .i64 x) := hX.cell 1
  have k2 : W.cell? ⟨w.heap.size, 2, none⟩ = some (.int .i64 y) := hX.cell 2
  have k3 : W.cell? ⟨w.heap.size, 3, none⟩ = some (.int .i64 v) := hX.cell 3
  have k4 : W.cell? ⟨w.heap.size, 4, none⟩ = some (.int .i64 h) := hX.cell 4
  have kk0 : W.cell? ⟨w.heap.size + 1, 0, none⟩ = some (.int .i64 p') := hY.cell 0
  have kk1 : W.cell? ⟨w.heap.size + 1, 1, none⟩ = some (.int .i64 x') := hY.cell 1
  have kk2 : W.cell? ⟨w.heap.size + 1, 2, none⟩ = some (.int .i64 y') := hY.cell 2
  have kk3 : W.cell? ⟨w.heap.size + 1, 3, none⟩ = some (.int .i64 v') := hY.cell 3
  have kk4 : W.cell? ⟨w.heap.size + 1, 4, none⟩ = some (.int .i64 h') := hY.cell 4
  have HB0 := Lib.hid hB0
  clear hB0 hX hY
  go_region_with ((first | (go_at_call 126; refine (turned_any _ _ _ _ _ _).mono ?_; rintro e u ⟨rfl, hbu'⟩; (first | (have hbu := undrew hbu') | (have hbu := hbu')); clear hbu'; have m0 : u.cell? ⟨w.heap.size, 0, none⟩ = some (.int .i64 p) := (hbu.cell (p := ⟨w.heap.size, 0, none⟩) (by assumption)).trans (by assumption); have m1 : u.cell? ⟨w.heap.size, 1, none⟩ = some (.int .i64 x) := (hbu.cell (p := ⟨w.heap.size, 1, none⟩) (by assumption)).trans (by assumption); have m2 : u.cell? ⟨w.heap.size, 2, none⟩ = some (.int .i64 y) := (hbu.cell (p := ⟨w.heap.size, 2, none⟩) (by assumption)).trans (by assumption); have m3 : u.cell? ⟨w.heap.size, 3, none⟩ = some (.int .i64 v) := (hbu.cell (p := ⟨w.heap.size, 3, none⟩) (by assumption)).trans (by assumption); have m4 : u.cell? ⟨w.heap.size, 4, none⟩ = some (.int .i64 h) := (hbu.cell (p := ⟨w.heap.size, 4, none⟩) (by assumption)).trans (by assumption); have n0 : u.cell? ⟨w.heap.size + 1, 0, none⟩ = some (.int .i64 p') := (hbu.cell (p := ⟨w.heap.size + 1, 0, none⟩) (by assumption)).trans (by assumption); have n1 : u.cell? ⟨w.heap.size + 1, 1, none⟩ = some (.int .i64 x') := (hbu.cell (p := ⟨w.heap.size + 1, 1, none⟩) (by assumption)).trans (by assumption); have n2 : u.cell? ⟨w.heap.size + 1, 2, none⟩ = some (.int .i64 y') := (hbu.cell (p := ⟨w.heap.size + 1, 2, none⟩) (by assumption)).trans (by assumption); have n3 : u.cell? ⟨w.heap.size + 1, 3, none⟩ = some (.int .i64 v') := (hbu.cell (p := ⟨w.heap.size + 1, 3, none⟩) (by assumption)).trans (by assumption); have n4 : u.cell? ⟨w.heap.size + 1, 4, none⟩ = some (.int .i64 h') := (hbu.cell (p := ⟨w.heap.size + 1, 4, none⟩) (by assumption)).trans (by assumption); have l0 : w.heap.size < u.heap.size := Nat.lt_of_lt_of_le (by assumption) hbu.size; have l1 : w.heap.size + 1 < u.heap.size := Nat.lt_of_lt_of_le (by assumption) hbu.size; have l2 : Hid (Below w.heap.size w u) := Lib.hid (Below.trans (Hid.out (by assumption)) (hbu.mono (Nat.le_of_lt (by assumption)))); clear hbu) | (go_at_call 125; refine (isRightOf_any _ _ _ _ _ _ _ _ _ _ _ HBr.out.turned HA.out.turned).mono ?_; rintro e u ⟨rfl, hbu'⟩; (first | (have hbu := undrew hbu') | (have hbu := hbu')); clear hbu'; have l9 : Hid (Below w.heap.size w u) := Lib.hid (Below.trans (Hid.out (by assumption)) (hbu.mono (Nat.le_of_lt (by assumption)))); clear hbu)))
  all_goals
    go_wp2_with fail
    go_ret
    exact ⟨rfl, by first | exact Hid.out (by assumption) | exact Below.drew (Hid.out (by assumption))⟩
set_option maxRecDepth 100000 in
set_option maxHeartbeats 1600000 in
theorem isBeside_68 (p x y v h p' x' y' v' h' : Int) (w : World) (ha : RB ⟨p, x, y, v, h⟩) (hb : RB ⟨p', x', y', v', h'⟩) :
    Calls Try.prog 78 #[.agg #[.int .i64 p, .int .i64 x, .int .i64 y, .int .i64 v, .int .i64 h], .agg #[.int .i64 p', .int .i64 x', .int .i64 y', .int .i64 v', .int .i64 h'], .int .i64 68] w fun e u => e = .returned (.bool (rightD ⟨p, y, x, h, v⟩ ⟨p', y', x', h', v'⟩)) ∧ Below w.heap.size w u := by
  have HA := Lib.hid ha
  have HBr := Lib.hid hb
  clear ha hb
  go_enter Try.func78, Try.ntmps78
  go_upto_region 9 with fail
  obtain ⟨W, hW⟩ : ∃ W, W = (w.alloc (.cells #[.int .i64 p, .int .i64 x, .int .i64 y, .int .i64 v, .int .i64 h] 32)).alloc (.cells #[.int .i64 p', .int .i64 x', .int .i64 y', .int .i64 v', .int .i64 h'] 32) := ⟨_, rfl⟩
  rw [← hW]
  obtain ⟨hB0, hX, hY⟩ := row_two hW
  clear hW
  have l0 := hX.lt
  have l1 := hY.lt
  have k0 : W.cell? ⟨w.heap.size, 0, none⟩ = some (.int .i64 p) := hX.cell 0
  have k1 : W.cell? ⟨w.heap.size, 1, none⟩ = some (.int .i64 x) := hX.cell 1
  have k2 : W.cell? ⟨w.heap.size, 2, none⟩ = some (.int .i64 y) := hX.cell 2
  have k3 : W.cell? ⟨w.heap.size, 3, none⟩ = some (.int .i64 v) := hX.cell 3
  have k4 : W.cell? ⟨w.heap.size, 4, none⟩ = some (.int .i64 h) := hX.cell 4
  have kk0 : W.cell? ⟨w.heap.size + 1, 0, none⟩ = some (.int .i64 p') := hY.cell 0
  have kk1 : W.cell? ⟨w.heap.size + 1, 1, none⟩ = some (.int .i64 x') := hY.cell 1
  have kk2 : W.cell? ⟨w.heap.size + 1, 2, none⟩ = some (.int .i64 y') := hY.cell 2
  have kk3 : W.cell? ⟨w.heap.size + 1, 3, none⟩ = some (.int .i64 v') := hY.cell 3
  have kk4 : W.cell? ⟨w.heap.size + 1, 4, none⟩ = some (.int .i64 h') := hY.cell 4
  have HB0 := Lib.hid hB0
  clear hB0 hX hY
  go_region_with ((first | (go_at_call 126; refine (turned_any _ _ _ _ _ _).mono ?_; rintro e u ⟨rfl, hbu'⟩; (first | (have hbu := undrew hbu') | (have hbu := hbu')); clear hbu'; have m0 : u.cell? ⟨w.heap.size, 0, none⟩ = some (.int .i64 p) := (hbu.cell (p := ⟨w.heap.size, 0, none⟩) (by assumption)).trans (by assumption); have m1 : u.cell? ⟨w.heap.size, 1, none⟩ = some (.int .i64 x) := (hbu.cell (p := ⟨w.heap.size, 1, none⟩) (by assumption)).trans (by assumption); have m2 : u.cell? ⟨w.heap.size, 2, none⟩ = some (.int .i64 y) := (hbu.cell (p := ⟨w.heap.size, 2, none⟩) (by assumption)).trans (by assumption); have m3 : u.cell? ⟨w.heap.size, 3, none⟩ = some (.int .i64 v) := (hbu.cell (p := ⟨w.heap.size, 3, none⟩) (by assumption)).trans (by assumption); have m4 : u.cell? ⟨w.heap.size, 4, none⟩ = some (.int .i64 h) := (hbu.cell (p := ⟨w.heap.size, 4, none⟩) (by assumption)).trans (by assumption); have n0 : u.cell? ⟨w.heap.size + 1, 0, none⟩ = some (.int .i64 p') := (hbu.cell (p := ⟨w.heap.size + 1, 0, none⟩) (by assumption)).trans (by assumption); have n1 : u.cell? ⟨w.heap.size + 1, 1, none⟩ = some (.int .i64 x') := (hbu.cell (p := ⟨w.heap.size + 1, 1, none⟩) (by assumption)).trans (by assumption); have n2 : u.cell? ⟨w.heap.size + 1, 2, none⟩ = some (.int .i64 y') := (hbu.cell (p := ⟨w.heap.size + 1, 2, none⟩) (by assumption)).trans (by assumption); have n3 : u.cell? ⟨w.heap.size + 1, 3, none⟩ = some (.int .i64 v') := (hbu.cell (p := ⟨w.heap.size + 1, 3, none⟩) (by assumption)).trans (by assumption); have n4 : u.cell? ⟨w.heap.size + 1, 4, none⟩ = some (.int .i64 h') := (hbu.cell (p := ⟨w.heap.size + 1, 4, none⟩) (by assumption)).trans (by assumption); have l0 : w.heap.size < u.heap.size := Nat.lt_of_lt_of_le (by assumption) hbu.size; have l1 : w.heap.size + 1 < u.heap.size := Nat.lt_of_lt_of_le (by assumption) hbu.size; have l2 : Hid (Below w.heap.size w u) := Lib.hid (Below.trans (Hid.out (by assumption)) (hbu.mono (Nat.le_of_lt (by assumption)))); clear hbu) | (go_at_call 125; refine (isRightOf_any _ _ _ _ _ _ _ _ _ _ _ HA.out.turned HBr.out.turned).mono ?_; rintro e u ⟨rfl, hbu'⟩; (first | (have hbu := undrew hbu') | (have hbu := hbu')); clear hbu'; have l9 : Hid (Below w.heap.size w u) := Lib.hid (Below.trans (Hid.out (by assumption)) (hbu.mono (Nat.le_of_lt (by assumption)))); clear hbu)))
  all_goals
    go_wp2_with fail
    go_ret
    exact ⟨rfl, by first | exact Hid.out (by assumption) | exact Below.drew (Hid.out (by assumption))⟩
end Go.Proofs.Ytkinkdgnephcbaa.Tr
