/- DiskOpOk: the contracts of the function and of its model: each answers one plain function of the kind, of what the two names are, and of the data's length. -/
import Derived.Test.YtfkdfabbpebljaaGreatNameOk
import Derived.Below
namespace Go.Proofs.YtfkdfabbpebljaaGreat.OpOk
open Go.RowKit Go.Proofs.YtfkdfabbpebljaaGreat.Made
set_option linter.unusedVariables false

def opB (k : Int) (nk tk ne te : Bool) (n : Nat) : Bool :=
  decide (1 ≤ k) && decide (k ≤ 6) && (if k = 6 then ne else nk) && (if k = 4 then tk else te) && decide (n ≤ 400000) && (decide (k = 2) || decide (n = 0))
theorem ne_f {b : Bool} {l : List UInt8} (h : l.isEmpty = b) : (!l.isEmpty) = !b := by rw [h]
theorem emp_t {l : List UInt8} (h : l.isEmpty = true) : l = [] := by simpa using h
theorem emp_f {l : List UInt8} (h : l.isEmpty = false) : ¬ l = [] := by simpa using h
theorem opB_lo {k : Int} {a b c d : Bool} {n : Nat} (h : k < 1) : opB k a b c d n = false := by unfold opB; rw [decide_eq_false (by omega : ¬ 1 ≤ k)]; rfl
theorem opB_hi {k : Int} {a b c d : Bool} {n : Nat} (h : 6 < k) : opB k a b c d n = false := by unfold opB; rw [decide_eq_false (by omega : ¬ k ≤ 6)]; simp

set_option maxRecDepth 100000 in
set_option maxHeartbeats 1600000 in
theorem spec_1 (name to_ : ByteArray) (A : Option Addr) (n c : Nat) (w : World) (hn : n ≤ 1099511627776) (h1 : name.size ≤ maxLen) (h2 : to_.size ≤ maxLen) :
    Calls Tryz.prog 20 #[.agg #[.int .i64 1, .string name, .string to_, .slice A n c]] w fun e w' => e = .returned (.bool (opB 1 (madeB nb 16 name.data.toList) (madeB nb 16 to_.data.toList) name.toList.isEmpty to_.toList.isEmpty n)) ∧ Below w.heap.size w w' := by
  have hN := Lib.hid (fun W => fnExactNameOk.spec_any name W h1)
  have hT := Lib.hid (fun W => fnExactNameOk.spec_any to_ W h2)
  generalize madeB nb 16 name.data.toList = nk at *
  generalize madeB nb 16 to_.data.toList = tk at *
  go_enter Tryz.func20, Tryz.ntmps20
  go_wp2_with fail
  refine (hN.out _).mono ?_
  rintro e w' ⟨rfl, rfl⟩
  cases nk
  · go_wp2_with fail
    go_ret
    exact ⟨ret_bool (by simp [opB]), ((Below.refl _ _).alloc (Nat.le_refl _) _)⟩
  · go_wp2_with fail
    all_goals (first | (exfalso; omega) | (go_ret; exact ⟨ret_bool (by unfold opB; simp_all <;> (first | omega | (rw [Bool.eq_iff_iff]; simp; omega))), ((Below.refl _ _).alloc (Nat.le_refl _) _)⟩))

set_option maxRecDepth 100000 in
set_option maxHeartbeats 1600000 in
theorem spec_2 (name to_ : ByteArray) (A : Option Addr) (n c : Nat) (w : World) (hn : n ≤ 1099511627776) (h1 : name.size ≤ maxLen) (h2 : to_.size ≤ maxLen) :
    Calls Tryz.prog 20 #[.agg #[.int .i64 2, .string name, .string to_, .slice A n c]] w fun e w' => e = .returned (.bool (opB 2 (madeB nb 16 name.data.toList) (madeB nb 16 to_.data.toList) name.toList.isEmpty to_.toList.isEmpty n)) ∧ Below w.heap.size w w' := by
  have hN := Lib.hid (fun W => fnExactNameOk.spec_any name W h1)
  have hT := Lib.hid (fun W => fnExactNameOk.spec_any to_ W h2)
  generalize madeB nb 16 name.data.toList = nk at *
  generalize madeB nb 16 to_.data.toList = tk at *
  go_enter Tryz.func20, Tryz.ntmps20
  go_wp2_with fail
  refine (hN.out _).mono ?_
  rintro e w' ⟨rfl, rfl⟩
  cases nk
  · go_wp2_with fail
    go_ret
    exact ⟨ret_bool (by simp [opB]), ((Below.refl _ _).alloc (Nat.le_refl _) _)⟩
  · go_wp2_with fail
    all_goals (first | (exfalso; omega) | (go_ret; exact ⟨ret_bool (by unfold opB; simp_all <;> (first | omega | (rw [Bool.eq_iff_iff]; simp; omega))), ((Below.refl _ _).alloc (Nat.le_refl _) _)⟩))

set_option maxRecDepth 100000 in
set_option maxHeartbeats 1600000 in
theorem spec_3 (name to_ : ByteArray) (A : Option Addr) (n c : Nat) (w : World) (hn : n ≤ 1099511627776) (h1 : name.size ≤ maxLen) (h2 : to_.size ≤ maxLen) :
    Calls Tryz.prog 20 #[.agg #[.int .i64 3, .string name, .string to_, .slice A n c]] w fun e w' => e = .returned (.bool (opB 3 (madeB nb 16 name.data.toList) (madeB nb 16 to_.data.toList) name.toList.isEmpty to_.toList.isEmpty n)) ∧ Below w.heap.size w w' := by
  have hN := Lib.hid (fun W => fnExactNameOk.spec_any name W h1)
  have hT := Lib.hid (fun W => fnExactNameOk.spec_any to_ W h2)
  generalize madeB nb 16 name.data.toList = nk at *
  generalize madeB nb 16 to_.data.toList = tk at *
  go_enter Tryz.func20, Tryz.ntmps20
  go_wp2_with fail
  refine (hN.out _).mono ?_
  rintro e w' ⟨rfl, rfl⟩
  cases nk
  · go_wp2_with fail
    go_ret
    exact ⟨ret_bool (by simp [opB]), ((Below.refl _ _).alloc (Nat.le_refl _) _)⟩
  · go_wp2_with fail
    all_goals (first | (exfalso; omega) | (go_ret; exact ⟨ret_bool (by unfold opB; simp_all <;> (first | omega | (rw [Bool.eq_iff_iff]; simp; omega))), ((Below.refl _ _).alloc (Nat.le_refl _) _)⟩))

set_option maxRecDepth 100000 in
set_option maxHeartbeats 1600000 in
theorem spec_4 (name to_ : ByteArray) (A : Option Addr) (n c : Nat) (w : World) (hn : n ≤ 1099511627776) (h1 : name.size ≤ maxLen) (h2 : to_.size ≤ maxLen) :
    Calls Tryz.prog 20 #[.agg #[.int .i64 4, .string name, .string to_, .slice A n c]] w fun e w' => e = .returned (.bool (opB 4 (madeB nb 16 name.data.toList) (madeB nb 16 to_.data.toList) name.toList.isEmpty to_.toList.isEmpty n)) ∧ Below w.heap.size w w' := by
  have hN := Lib.hid (fun W => fnExactNameOk.spec_any name W h1)
  have hT := Lib.hid (fun W => fnExactNameOk.spec_any to_ W h2)
  generalize madeB nb 16 name.data.toList = nk at *
  generalize madeB nb 16 to_.data.toList = tk at *
  go_enter Tryz.func20, Tryz.ntmps20
  go_wp2_with fail
  refine (hN.out _).mono ?_
  rintro e w' ⟨rfl, rfl⟩
  cases nk
  · go_wp2_with fail
    go_ret
    exact ⟨ret_bool (by simp [opB]), ((Below.refl _ _).alloc (Nat.le_refl _) _)⟩
  · go_wp2_with fail
    refine (hT.out _).mono ?_
    rintro e w' ⟨rfl, rfl⟩
    cases tk
    · go_wp2_with fail
      go_ret
      exact ⟨ret_bool (by simp [opB]), ((Below.refl _ _).alloc (Nat.le_refl _) _)⟩
    · go_wp2_with fail
      all_goals (first | (exfalso; omega) | (go_ret; exact ⟨ret_bool (by unfold opB; simp_all <;> (first | omega | (rw [Bool.eq_iff_iff]; simp; omega))), ((Below.refl _ _).alloc (Nat.le_refl _) _)⟩))

set_option maxRecDepth 100000 in
set_option maxHeartbeats 1600000 in
theorem spec_5 (name to_ : ByteArray) (A : Option Addr) (n c : Nat) (w : World) (hn : n ≤ 1099511627776) (h1 : name.size ≤ maxLen) (h2 : to_.size ≤ maxLen) :
    Calls Tryz.prog 20 #[.agg #[.int .i64 5, .string name, .string to_, .slice A n c]] w fun e w' => e = .returned (.bool (opB 5 (madeB nb 16 name.data.toList) (madeB nb 16 to_.data.toList) name.toList.isEmpty to_.toList.isEmpty n)) ∧ Below w.heap.size w w' := by
  have hN := Lib.hid (fun W => fnExactNameOk.spec_any name W h1)
  have hT := Lib.hid (fun W => fnExactNameOk.spec_any to_ W h2)
  generalize madeB nb 16 name.data.toList = nk at *
  generalize madeB nb 16 to_.data.toList = tk at *
  go_enter Tryz.func20, Tryz.ntmps20
  go_wp2_with fail
  refine (hN.out _).mono ?_
  rintro e w' ⟨rfl, rfl⟩
  cases nk
  · go_wp2_with fail
    go_ret
    exact ⟨ret_bool (by simp [opB]), ((Below.refl _ _).alloc (Nat.le_refl _) _)⟩
  · go_wp2_with fail
    all_goals (first | (exfalso; omega) | (go_ret; exact ⟨ret_bool (by unfold opB; simp_all <;> (first | omega | (rw [Bool.eq_iff_iff]; simp; omega))), ((Below.refl _ _).alloc (Nat.le_refl _) _)⟩))

set_option maxRecDepth 100000 in
set_option maxHeartbeats 1600000 in
theorem spec_6 (name to_ : ByteArray) (A : Option Addr) (n c : Nat) (w : World) (hn : n ≤ 1099511627776) (h1 : name.size ≤ maxLen) (h2 : to_.size ≤ maxLen) :
    Calls Tryz.prog 20 #[.agg #[.int .i64 6, .string name, .string to_, .slice A n c]] w fun e w' => e = .returned (.bool (opB 6 (madeB nb 16 name.data.toList) (madeB nb 16 to_.data.toList) name.toList.isEmpty to_.toList.isEmpty n)) ∧ Below w.heap.size w w' := by
  have hN := Lib.hid (fun W => fnExactNameOk.spec_any name W h1)
  have hT := Lib.hid (fun W => fnExactNameOk.spec_any to_ W h2)
  generalize madeB nb 16 name.data.toList = nk at *
  generalize madeB nb 16 to_.data.toList = tk at *
  go_enter Tryz.func20, Tryz.ntmps20
  go_wp2_with fail
  all_goals (first | (exfalso; omega) | (go_ret; exact ⟨ret_bool (by unfold opB; simp_all <;> (first | omega | (rw [Bool.eq_iff_iff]; simp; omega))), ((Below.refl _ _).alloc (Nat.le_refl _) _)⟩))

set_option maxRecDepth 100000 in
set_option maxHeartbeats 1600000 in
theorem spec_out (k : Int) (hk : k < 1 ∨ 6 < k) (name to_ : ByteArray) (A : Option Addr) (n c : Nat) (w : World) (hn : n ≤ 1099511627776) (h1 : name.size ≤ maxLen) (h2 : to_.size ≤ maxLen) :
    Calls Tryz.prog 20 #[.agg #[.int .i64 k, .string name, .string to_, .slice A n c]] w fun e w' => e = .returned (.bool (opB k (madeB nb 16 name.data.toList) (madeB nb 16 to_.data.toList) name.toList.isEmpty to_.toList.isEmpty n)) ∧ Below w.heap.size w w' := by
  rcases hk with hk | hk
  · rw [opB_lo hk]
    go_enter Tryz.func20, Tryz.ntmps20
    go_wp2_with fail
    go_ret
    exact ⟨rfl, ((Below.refl _ _).alloc (Nat.le_refl _) _)⟩
  · rw [opB_hi hk]
    have hk' : ¬ k < 1 := by omega
    go_enter Tryz.func20, Tryz.ntmps20
    go_wp2_with fail
    go_ret
    exact ⟨rfl, ((Below.refl _ _).alloc (Nat.le_refl _) _)⟩

set_option maxRecDepth 100000 in
set_option maxHeartbeats 1600000 in
theorem impl_1 (name to_ : ByteArray) (A : Option Addr) (n c : Nat) (w : World) (hn : n ≤ 1099511627776) (h1 : name.size ≤ maxLen) (h2 : to_.size ≤ maxLen) :
    Calls Tryz.prog 33 #[.agg #[.int .i64 1, .string name, .string to_, .slice A n c]] w fun e w' => e = .returned (.bool (opB 1 (madeB nb 16 name.data.toList) (madeB nb 16 to_.data.toList) name.toList.isEmpty to_.toList.isEmpty n)) ∧ Below w.heap.size w w' := by
  have hN := Lib.hid (fun W => fnExactNameOk.impl_any name W h1)
  have hT := Lib.hid (fun W => fnExactNameOk.impl_any to_ W h2)
  generalize madeB nb 16 name.data.toList = nk at *
  generalize madeB nb 16 to_.data.toList = tk at *
  go_enter Tryz.func33, Tryz.ntmps33
  go_wp2_with fail
  all_goals (first | (first | (exfalso; omega) | (go_ret; exact ⟨ret_bool (by unfold opB; simp_all <;> (first | omega | (rw [Bool.eq_iff_iff]; simp; omega))), ((Below.refl _ _).alloc (Nat.le_refl _) _)⟩)) | (refine (hN.out _).mono ?_; rintro e w' ⟨rfl, rfl⟩; cases nk <;> (go_wp2_with fail) <;> (first | (exfalso; omega) | (go_ret; exact ⟨ret_bool (by unfold opB; simp_all <;> omega), ((Below.refl _ _).alloc (Nat.le_refl _) _)⟩))))

set_option maxRecDepth 100000 in
set_option maxHeartbeats 1600000 in
theorem impl_2 (name to_ : ByteArray) (A : Option Addr) (n c : Nat) (w : World) (hn : n ≤ 1099511627776) (h1 : name.size ≤ maxLen) (h2 : to_.size ≤ maxLen) :
    Calls Tryz.prog 33 #[.agg #[.int .i64 2, .string name, .string to_, .slice A n c]] w fun e w' => e = .returned (.bool (opB 2 (madeB nb 16 name.data.toList) (madeB nb 16 to_.data.toList) name.toList.isEmpty to_.toList.isEmpty n)) ∧ Below w.heap.size w w' := by
  have hN := Lib.hid (fun W => fnExactNameOk.impl_any name W h1)
  have hT := Lib.hid (fun W => fnExactNameOk.impl_any to_ W h2)
  generalize madeB nb 16 name.data.toList = nk at *
  generalize madeB nb 16 to_.data.toList = tk at *
  go_enter Tryz.func33, Tryz.ntmps33
  go_wp2_with fail
  all_goals (first | (first | (exfalso; omega) | (go_ret; exact ⟨ret_bool (by unfold opB; simp_all <;> (first | omega | (rw [Bool.eq_iff_iff]; simp; omega))), ((Below.refl _ _).alloc (Nat.le_refl _) _)⟩)) | (refine (hN.out _).mono ?_; rintro e w' ⟨rfl, rfl⟩; cases nk <;> (go_wp2_with fail) <;> (first | (exfalso; omega) | (go_ret; exact ⟨ret_bool (by unfold opB; simp_all <;> omega), ((Below.refl _ _).alloc (Nat.le_refl _) _)⟩))))

set_option maxRecDepth 100000 in
set_option maxHeartbeats 1600000 in
theorem impl_3 (name to_ : ByteArray) (A : Option Addr) (n c : Nat) (w : World) (hn : n ≤ 1099511627776) (h1 : name.size ≤ maxLen) (h2 : to_.size ≤ maxLen) :
    Calls Tryz.prog 33 #[.agg #[.int .i64 3, .string name, .string to_, .slice A n c]] w fun e w' => e = .returned (.bool (opB 3 (madeB nb 16 name.data.toList) (madeB nb 16 to_.data.toList) name.toList.isEmpty to_.toList.isEmpty n)) ∧ Below w.heap.size w w' := by
  have hN := Lib.hid (fun W => fnExactNameOk.impl_any name W h1)
  have hT := Lib.hid (fun W => fnExactNameOk.impl_any to_ W h2)
  generalize madeB nb 16 name.data.toList = nk at *
  generalize madeB nb 16 to_.data.toList = tk at *
  go_enter Tryz.func33, Tryz.ntmps33
  go_wp2_with fail
  all_goals (first | (first | (exfalso; omega) | (go_ret; exact ⟨ret_bool (by unfold opB; simp_all <;> (first | omega | (rw [Bool.eq_iff_iff]; simp; omega))), ((Below.refl _ _).alloc (Nat.le_refl _) _)⟩)) | (refine (hN.out _).mono ?_; rintro e w' ⟨rfl, rfl⟩; cases nk <;> (go_wp2_with fail) <;> (first | (exfalso; omega) | (go_ret; exact ⟨ret_bool (by unfold opB; simp_all <;> omega), ((Below.refl _ _).alloc (Nat.le_refl _) _)⟩))))

set_option maxRecDepth 100000 in
set_option maxHeartbeats 1600000 in
theorem impl_4 (name to_ : ByteArray) (A : Option Addr) (n c : Nat) (w : World) (hn : n ≤ 1099511627776) (h1 : name.size ≤ maxLen) (h2 : to_.size ≤ maxLen) :
    Calls Tryz.prog 33 #[.agg #[.int .i64 4, .string name, .string to_, .slice A n c]] w fun e w' => e = .returned (.bool (opB 4 (madeB nb 16 name.data.toList) (madeB nb 16 to_.data.toList) name.toList.isEmpty to_.toList.isEmpty n)) ∧ Below w.heap.size w w' := by
  have hN := Lib.hid (fun W => fnExactNameOk.impl_any name W h1)
  have hT := Lib.hid (fun W => fnExactNameOk.impl_any to_ W h2)
  generalize madeB nb 16 name.data.toList = nk at *
  generalize madeB nb 16 to_.data.toList = tk at *
  go_enter Tryz.func33, Tryz.ntmps33
  go_wp2_with fail
  all_goals (first | (first | (exfalso; omega) | (go_ret; exact ⟨ret_bool (by unfold opB; simp_all <;> (first | omega | (rw [Bool.eq_iff_iff]; simp; omega))), ((Below.refl _ _).alloc (Nat.le_refl _) _)⟩)) | (refine (hN.out _).mono ?_; rintro e w' ⟨rfl, rfl⟩; cases nk <;> (go_wp2_with fail) <;> (first | (first | (exfalso; omega) | (go_ret; exact ⟨ret_bool (by unfold opB; simp_all <;> omega), ((Below.refl _ _).alloc (Nat.le_refl _) _)⟩)) | (refine (hT.out _).mono ?_; rintro e w' ⟨rfl, rfl⟩; cases tk <;> (go_wp2_with fail) <;> (first | (exfalso; omega) | (go_ret; exact ⟨ret_bool (by unfold opB; simp_all <;> omega), ((Below.refl _ _).alloc (Nat.le_refl _) _)⟩))))))

set_option maxRecDepth 100000 in
set_option maxHeartbeats 1600000 in
theorem impl_5 (name to_ : ByteArray) (A : Option Addr) (n c : Nat) (w : World) (hn : n ≤ 1099511627776) (h1 : name.size ≤ maxLen) (h2 : to_.size ≤ maxLen) :
    Calls Tryz.prog 33 #[.agg #[.int .i64 5, .string name, .string to_, .slice A n c]] w fun e w' => e = .returned (.bool (opB 5 (madeB nb 16 name.data.toList) (madeB nb 16 to_.data.toList) name.toList.isEmpty to_.toList.isEmpty n)) ∧ Below w.heap.size w w' := by
  have hN := Lib.hid (fun W => fnExactNameOk.impl_any name W h1)
  have hT := Lib.hid (fun W => fnExactNameOk.impl_any to_ W h2)
  generalize madeB nb 16 name.data.toList = nk at *
  generalize madeB nb 16 to_.data.toList = tk at *
  go_enter Tryz.func33, Tryz.ntmps33
  go_wp2_with fail
  all_goals (first | (first | (exfalso; omega) | (go_ret; exact ⟨ret_bool (by unfold opB; simp_all <;> (first | omega | (rw [Bool.eq_iff_iff]; simp; omega))), ((Below.refl _ _).alloc (Nat.le_refl _) _)⟩)) | (refine (hN.out _).mono ?_; rintro e w' ⟨rfl, rfl⟩; cases nk <;> (go_wp2_with fail) <;> (first | (exfalso; omega) | (go_ret; exact ⟨ret_bool (by unfold opB; simp_all <;> omega), ((Below.refl _ _).alloc (Nat.le_refl _) _)⟩))))

set_option maxRecDepth 100000 in
set_option maxHeartbeats 1600000 in
theorem impl_6 (name to_ : ByteArray) (A : Option Addr) (n c : Nat) (w : World) (hn : n ≤ 1099511627776) (h1 : name.size ≤ maxLen) (h2 : to_.size ≤ maxLen) :
    Calls Tryz.prog 33 #[.agg #[.int .i64 6, .string name, .string to_, .slice A n c]] w fun e w' => e = .returned (.bool (opB 6 (madeB nb 16 name.data.toList) (madeB nb 16 to_.data.toList) name.toList.isEmpty to_.toList.isEmpty n)) ∧ Below w.heap.size w w' := by
  have hN := Lib.hid (fun W => fnExactNameOk.impl_any name W h1)
  have hT := Lib.hid (fun W => fnExactNameOk.impl_any to_ W h2)
  generalize madeB nb 16 name.data.toList = nk at *
  generalize madeB nb 16 to_.data.toList = tk at *
  go_enter Tryz.func33, Tryz.ntmps33
  go_wp2_with fail
  all_goals (first | (exfalso; omega) | (go_ret; exact ⟨ret_bool (by unfold opB; simp_all <;> (first | omega | (rw [Bool.eq_iff_iff]; simp; omega))), ((Below.refl _ _).alloc (Nat.le_refl _) _)⟩))

set_option maxRecDepth 100000 in
set_option maxHeartbeats 1600000 in
theorem impl_out (k : Int) (hk : k < 1 ∨ 6 < k) (name to_ : ByteArray) (A : Option Addr) (n c : Nat) (w : World) (hn : n ≤ 1099511627776) (h1 : name.size ≤ maxLen) (h2 : to_.size ≤ maxLen) :
    Calls Tryz.prog 33 #[.agg #[.int .i64 k, .string name, .string to_, .slice A n c]] w fun e w' => e = .returned (.bool (opB k (madeB nb 16 name.data.toList) (madeB nb 16 to_.data.toList) name.toList.isEmpty to_.toList.isEmpty n)) ∧ Below w.heap.size w w' := by
  have hv : opB k (madeB nb 16 name.data.toList) (madeB nb 16 to_.data.toList) name.toList.isEmpty to_.toList.isEmpty n = false := by
    rcases hk with hk | hk
    · exact opB_lo hk
    · exact opB_hi hk
  rw [hv]
  have n2 : (k != 2) = true := by simp; omega
  have n4 : (k != 4) = true := by simp; omega
  have e1 : (k == 1) = false := by simp; omega
  have e2 : (k == 2) = false := by simp; omega
  have e3 : (k == 3) = false := by simp; omega
  have e4 : (k == 4) = false := by simp; omega
  have e5 : (k == 5) = false := by simp; omega
  have e6 : (k == 6) = false := by simp; omega
  clear hk hv
  go_enter Tryz.func33, Tryz.ntmps33
  go_wp2_with fail
  all_goals (go_ret; exact ⟨rfl, ((Below.refl _ _).alloc (Nat.le_refl _) _)⟩)

theorem spec_any (k : Int) (name to_ : ByteArray) (A : Option Addr) (n c : Nat) (w : World) (hn : n ≤ 1099511627776) (h1 : name.size ≤ maxLen) (h2 : to_.size ≤ maxLen) :
    Calls Tryz.prog 20 #[.agg #[.int .i64 k, .string name, .string to_, .slice A n c]] w fun e w' => e = .returned (.bool (opB k (madeB nb 16 name.data.toList) (madeB nb 16 to_.data.toList) name.toList.isEmpty to_.toList.isEmpty n)) ∧ Below w.heap.size w w' := by
  by_cases hk : k < 1 ∨ 6 < k
  · exact spec_out k hk name to_ A n c w hn h1 h2
  · have : k = 1 ∨ k = 2 ∨ k = 3 ∨ k = 4 ∨ k = 5 ∨ k = 6 := by omega
    rcases this with rfl | rfl | rfl | rfl | rfl | rfl
    · exact spec_1 name to_ A n c w hn h1 h2
    · exact spec_2 name to_ A n c w hn h1 h2
    · exact spec_3 name to_ A n c w hn h1 h2
    · exact spec_4 name to_ A n c w hn h1 h2
    · exact spec_5 name to_ A n c w hn h1 h2
    · exact spec_6 name to_ A n c w hn h1 h2

theorem impl_any (k : Int) (name to_ : ByteArray) (A : Option Addr) (n c : Nat) (w : World) (hn : n ≤ 1099511627776) (h1 : name.size ≤ maxLen) (h2 : to_.size ≤ maxLen) :
    Calls Tryz.prog 33 #[.agg #[.int .i64 k, .string name, .string to_, .slice A n c]] w fun e w' => e = .returned (.bool (opB k (madeB nb 16 name.data.toList) (madeB nb 16 to_.data.toList) name.toList.isEmpty to_.toList.isEmpty n)) ∧ Below w.heap.size w w' := by
  by_cases hk : k < 1 ∨ 6 < k
  · exact impl_out k hk name to_ A n c w hn h1 h2
  · have : k = 1 ∨ k = 2 ∨ k = 3 ∨ k = 4 ∨ k = 5 ∨ k = 6 := by omega
    rcases this with rfl | rfl | rfl | rfl | rfl | rfl
    · exact impl_1 name to_ A n c w hn h1 h2
    · exact impl_2 name to_ A n c w hn h1 h2
    · exact impl_3 name to_ A n c w hn h1 h2
    · exact impl_4 name to_ A n c w hn h1 h2
    · exact impl_5 name to_ A n c w hn h1 h2
    · exact impl_6 name to_ A n c w hn h1 h2

end Go.Proofs.YtfkdfabbpebljaaGreat.OpOk
