/- The model's DiskOk: its first condition, on the disk's numbers. -/
import Derived.Test.YtfkdfabbpebljaaGreatIds
import Derived.Test.YtfkdfabbpebljaaGreatKitD
namespace Go.Proofs.YtfkdfabbpebljaaGreat.DOk
open Go.RowKit Go.Proofs.YtfkdfabbpebljaaGreat.Bytes Go.Proofs.YtfkdfabbpebljaaGreat.Rows_
set_option linter.unusedVariables false

def Ans (P : Prop) (B : Nat) (w : World) (e : Ending) (w' : World) : Prop := ∃ b, e = .returned (.bool b) ∧ (b = true ↔ P) ∧ Below B w w'
/-- the numbers of a disk are in their ranges -/
def HdOk (room fuse next : Int) (nf nk nt used : Nat) : Prop :=
  0 ≤ room ∧ room ≤ 400000 ∧ -1 ≤ fuse ∧ fuse ≤ 1000 ∧ 1 ≤ next ∧ next ≤ 1000000 ∧ nf ≤ 10 ∧ nk ≤ 10 ∧ nt ≤ 30 ∧ (used : Int) ≤ room

set_option maxRecDepth 100000 in
set_option maxHeartbeats 1600000 in
theorem spec_hd0 (room fuse next : Int) (F : Option Addr) (nf cf : Nat) (K : Option Addr) (nk ck : Nat) (T : Option Addr) (nt ct : Nat) (w : World) (h0 : room < 0) :
    Calls Tryz.prog 19 #[.agg #[.int .i64 room, .int .i64 fuse, .int .i64 next, .slice F nf cf, .slice K nk ck, .slice T nt ct]] w fun e w' => e = .returned (.bool false) ∧ Below w.heap.size w w' := by
  have d0 : decide (room < 0) = true := decide_eq_true h0
  clear h0
  go_enter Tryz.func19, Tryz.ntmps19
  go_wp2_with fail
  go_quiet (fail)
  go_wp2_with fail
  go_ret
  exact ⟨rfl, below_drewN ((Below.refl _ _).alloc (Nat.le_refl _) _) _⟩

set_option maxRecDepth 100000 in
set_option maxHeartbeats 1600000 in
theorem spec_hd1 (room fuse next : Int) (F : Option Addr) (nf cf : Nat) (K : Option Addr) (nk ck : Nat) (T : Option Addr) (nt ct : Nat) (w : World) (h0 : ¬ room < 0) (h1 : 400000 < room) :
    Calls Tryz.prog 19 #[.agg #[.int .i64 room, .int .i64 fuse, .int .i64 next, .slice F nf cf, .slice K nk ck, .slice T nt ct]] w fun e w' => e = .returned (.bool false) ∧ Below w.heap.size w w' := by
  have d0 : decide (room < 0) = false := decide_eq_false h0
  have d1 : decide (400000 < room) = true := decide_eq_true h1
  clear h0 h1
  go_enter Tryz.func19, Tryz.ntmps19
  go_wp2_with fail
  go_quiet (fail)
  go_wp2_with fail
  go_ret
  exact ⟨rfl, below_drewN ((Below.refl _ _).alloc (Nat.le_refl _) _) _⟩

set_option maxRecDepth 100000 in
set_option maxHeartbeats 1600000 in
theorem spec_hd2 (room fuse next : Int) (F : Option Addr) (nf cf : Nat) (K : Option Addr) (nk ck : Nat) (T : Option Addr) (nt ct : Nat) (w : World) (h0 : ¬ room < 0) (h1 : ¬ 400000 < room) (h2 : fuse < -1) :
    Calls Tryz.prog 19 #[.agg #[.int .i64 room, .int .i64 fuse, .int .i64 next, .slice F nf cf, .slice K nk ck, .slice T nt ct]] w fun e w' => e = .returned (.bool false) ∧ Below w.heap.size w w' := by
  have d0 : decide (room < 0) = false := decide_eq_false h0
  have d1 : decide (400000 < room) = false := decide_eq_false h1
  have d2 : decide (fuse < -1) = true := decide_eq_true h2
  clear h0 h1 h2
  go_enter Tryz.func19, Tryz.ntmps19
  go_wp2_with fail
  go_quiet (fail)
  go_wp2_with fail
  go_ret
  exact ⟨rfl, below_drewN ((Below.refl _ _).alloc (Nat.le_refl _) _) _⟩

set_option maxRecDepth 100000 in
set_option maxHeartbeats 1600000 in
theorem spec_hd3 (room fuse next : Int) (F : Option Addr) (nf cf : Nat) (K : Option Addr) (nk ck : Nat) (T : Option Addr) (nt ct : Nat) (w : World) (h0 : ¬ room < 0) (h1 : ¬ 400000 < room) (h2 : ¬ fuse < -1) (h3 : 1000 < fuse) :
    Calls Tryz.prog 19 #[.agg #[.int .i64 room, .int .i64 fuse, .int .i64 next, .slice F nf cf, .slice K nk ck, .slice T nt ct]] w fun e w' => e = .returned (.bool false) ∧ Below w.heap.size w w' := by
  have d0 : decide (room < 0) = false := decide_eq_false h0
  have d1 : decide (400000 < room) = false := decide_eq_false h1
  have d2 : decide (fuse < -1) = false := decide_eq_false h2
  have d3 : decide (1000 < fuse) = true := decide_eq_true h3
  clear h0 h1 h2 h3
  go_enter Tryz.func19, Tryz.ntmps19
  go_wp2_with fail
  go_quiet (fail)
  go_wp2_with fail
  go_ret
  exact ⟨rfl, below_drewN ((Below.refl _ _).alloc (Nat.le_refl _) _) _⟩

set_option maxRecDepth 100000 in
set_option maxHeartbeats 1600000 in
theorem spec_hd4 (room fuse next : Int) (F : Option Addr) (nf cf : Nat) (K : Option Addr) (nk ck : Nat) (T : Option Addr) (nt ct : Nat) (w : World) (h0 : ¬ room < 0) (h1 : ¬ 400000 < room) (h2 : ¬ fuse < -1) (h3 : ¬ 1000 < fuse) (h4 : next < 1) :
    Calls Tryz.prog 19 #[.agg #[.int .i64 room, .int .i64 fuse, .int .i64 next, .slice F nf cf, .slice K nk ck, .slice T nt ct]] w fun e w' => e = .returned (.bool false) ∧ Below w.heap.size w w' := by
  have d0 : decide (room < 0) = false := decide_eq_false h0
  have d1 : decide (400000 < room) = false := decide_eq_false h1
  have d2 : decide (fuse < -1) = false := decide_eq_false h2
  have d3 : decide (1000 < fuse) = false := decide_eq_false h3
  have d4 : decide (next < 1) = true := decide_eq_true h4
  clear h0 h1 h2 h3 h4
  go_enter Tryz.func19, Tryz.ntmps19
  go_wp2_with fail
  go_quiet (fail)
  go_wp2_with fail
  go_ret
  exact ⟨rfl, below_drewN ((Below.refl _ _).alloc (Nat.le_refl _) _) _⟩

set_option maxRecDepth 100000 in
set_option maxHeartbeats 1600000 in
theorem spec_hd5 (room fuse next : Int) (F : Option Addr) (nf cf : Nat) (K : Option Addr) (nk ck : Nat) (T : Option Addr) (nt ct : Nat) (w : World) (h0 : ¬ room < 0) (h1 : ¬ 400000 < room) (h2 : ¬ fuse < -1) (h3 : ¬ 1000 < fuse) (h4 : ¬ next < 1) (h5 : 1000000 < next) :
    Calls Tryz.prog 19 #[.agg #[.int .i64 room, .int .i64 fuse, .int .i64 next, .slice F nf cf, .slice K nk ck, .slice T nt ct]] w fun e w' => e = .returned (.bool false) ∧ Below w.heap.size w w' := by
  have d0 : decide (room < 0) = false := decide_eq_false h0
  have d1 : decide (400000 < room) = false := decide_eq_false h1
  have d2 : decide (fuse < -1) = false := decide_eq_false h2
  have d3 : decide (1000 < fuse) = false := decide_eq_false h3
  have d4 : decide (next < 1) = false := decide_eq_false h4
  have d5 : decide (1000000 < next) = true := decide_eq_true h5
  clear h0 h1 h2 h3 h4 h5
  go_enter Tryz.func19, Tryz.ntmps19
  go_wp2_with fail
  go_quiet (fail)
  go_wp2_with fail
  go_ret
  exact ⟨rfl, below_drewN ((Below.refl _ _).alloc (Nat.le_refl _) _) _⟩

set_option maxRecDepth 100000 in
set_option maxHeartbeats 1600000 in
theorem spec_hd6 (room fuse next : Int) (F : Option Addr) (nf cf : Nat) (K : Option Addr) (nk ck : Nat) (T : Option Addr) (nt ct : Nat) (w : World) (h0 : ¬ room < 0) (h1 : ¬ 400000 < room) (h2 : ¬ fuse < -1) (h3 : ¬ 1000 < fuse) (h4 : ¬ next < 1) (h5 : ¬ 1000000 < next) (h6 : (10 : Int) < nf) :
    Calls Tryz.prog 19 #[.agg #[.int .i64 room, .int .i64 fuse, .int .i64 next, .slice F nf cf, .slice K nk ck, .slice T nt ct]] w fun e w' => e = .returned (.bool false) ∧ Below w.heap.size w w' := by
  have d0 : decide (room < 0) = false := decide_eq_false h0
  have d1 : decide (400000 < room) = false := decide_eq_false h1
  have d2 : decide (fuse < -1) = false := decide_eq_false h2
  have d3 : decide (1000 < fuse) = false := decide_eq_false h3
  have d4 : decide (next < 1) = false := decide_eq_false h4
  have d5 : decide (1000000 < next) = false := decide_eq_false h5
  have d6 : decide ((10 : Int) < nf) = true := decide_eq_true h6
  clear h0 h1 h2 h3 h4 h5 h6
  go_enter Tryz.func19, Tryz.ntmps19
  go_wp2_with fail
  go_quiet (fail)
  go_wp2_with fail
  go_ret
  exact ⟨rfl, below_drewN ((Below.refl _ _).alloc (Nat.le_refl _) _) _⟩

set_option maxRecDepth 100000 in
set_option maxHeartbeats 1600000 in
theorem spec_hd7 (room fuse next : Int) (F : Option Addr) (nf cf : Nat) (K : Option Addr) (nk ck : Nat) (T : Option Addr) (nt ct : Nat) (w : World) (h0 : ¬ room < 0) (h1 : ¬ 400000 < room) (h2 : ¬ fuse < -1) (h3 : ¬ 1000 < fuse) (h4 : ¬ next < 1) (h5 : ¬ 1000000 < next) (h6 : ¬ (10 : Int) < nf) (h7 : (10 : Int) < nk) :
    Calls Tryz.prog 19 #[.agg #[.int .i64 room, .int .i64 fuse, .int .i64 next, .slice F nf cf, .slice K nk ck, .slice T nt ct]] w fun e w' => e = .returned (.bool false) ∧ Below w.heap.size w w' := by
  have d0 : decide (room < 0) = false := decide_eq_false h0
  have d1 : decide (400000 < room) = false := decide_eq_false h1
  have d2 : decide (fuse < -1) = false := decide_eq_false h2
  have d3 : decide (1000 < fuse) = false := decide_eq_false h3
  have d4 : decide (next < 1) = false := decide_eq_false h4
  have d5 : decide (1000000 < next) = false := decide_eq_false h5
  have d6 : decide ((10 : Int) < nf) = false := decide_eq_false h6
  have d7 : decide ((10 : Int) < nk) = true := decide_eq_true h7
  clear h0 h1 h2 h3 h4 h5 h6 h7
  go_enter Tryz.func19, Tryz.ntmps19
  go_wp2_with fail
  go_quiet (fail)
  go_wp2_with fail
  go_ret
  exact ⟨rfl, below_drewN ((Below.refl _ _).alloc (Nat.le_refl _) _) _⟩

set_option maxRecDepth 100000 in
set_option maxHeartbeats 1600000 in
theorem spec_hd8 (room fuse next : Int) (F : Option Addr) (nf cf : Nat) (K : Option Addr) (nk ck : Nat) (T : Option Addr) (nt ct : Nat) (w : World) (h0 : ¬ room < 0) (h1 : ¬ 400000 < room) (h2 : ¬ fuse < -1) (h3 : ¬ 1000 < fuse) (h4 : ¬ next < 1) (h5 : ¬ 1000000 < next) (h6 : ¬ (10 : Int) < nf) (h7 : ¬ (10 : Int) < nk) (h8 : (30 : Int) < nt) :
    Calls Tryz.prog 19 #[.agg #[.int .i64 room, .int .i64 fuse, .int .i64 next, .slice F nf cf, .slice K nk ck, .slice T nt ct]] w fun e w' => e = .returned (.bool false) ∧ Below w.heap.size w w' := by
  have d0 : decide (room < 0) = false := decide_eq_false h0
  have d1 : decide (400000 < room) = false := decide_eq_false h1
  have d2 : decide (fuse < -1) = false := decide_eq_false h2
  have d3 : decide (1000 < fuse) = false := decide_eq_false h3
  have d4 : decide (next < 1) = false := decide_eq_false h4
  have d5 : decide (1000000 < next) = false := decide_eq_false h5
  have d6 : decide ((10 : Int) < nf) = false := decide_eq_false h6
  have d7 : decide ((10 : Int) < nk) = false := decide_eq_false h7
  have d8 : decide ((30 : Int) < nt) = true := decide_eq_true h8
  clear h0 h1 h2 h3 h4 h5 h6 h7 h8
  go_enter Tryz.func19, Tryz.ntmps19
  go_wp2_with fail
  go_quiet (fail)
  go_wp2_with fail
  go_ret
  exact ⟨rfl, below_drewN ((Below.refl _ _).alloc (Nat.le_refl _) _) _⟩

end Go.Proofs.YtfkdfabbpebljaaGreat.DOk
