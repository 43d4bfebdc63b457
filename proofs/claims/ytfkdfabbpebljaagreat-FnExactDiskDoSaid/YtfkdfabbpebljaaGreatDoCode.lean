/- The code with which an operation on a good disk is refused, in the program: one plain function of the kind, of whether the name is there, and of the disk's sizes. -/
import Derived.Test.YtfkdfabbpebljaaGreatKitC
import Derived.Below
namespace Go.Proofs.YtfkdfabbpebljaaGreat.DOk
open Go.RowKit Go.Proofs.YtfkdfabbpebljaaGreat.Bytes Go.Proofs.YtfkdfabbpebljaaGreat.Rows_ Go.Maps Go.WideMaps
set_option linter.unusedVariables false

def codeD (fuse next : Int) (nf nt : Nat) (kind : Int) (ex same : Bool) : Int :=
  if fuse = 0 then 2
  else if kind ≠ 6 ∧ ex = decide (kind = 1) then 3
  else if kind = 1 ∧ (10 ≤ nf ∨ 1000000 ≤ next) then 4
  else if (kind = 1 ∨ kind = 4 ∨ kind = 5) ∧ 30 ≤ nt then 4
  else if kind = 4 ∧ same = true then 4 else 0
theorem ret_i {x y : Int} (h : x = y) : Ending.returned (.int .i64 x) = Ending.returned (.int .i64 y) := by rw [h]

set_option maxRecDepth 100000 in
theorem addsTurn_1 (w : World) : Calls Tryz.prog 71 #[.int .i64 1] w fun e w' => e = .returned (.bool true) ∧ w' = w := by
  go_enter Tryz.func71, Tryz.ntmps71
  go_wp2_with fail
  go_ret
  exact ⟨rfl, rfl⟩

set_option maxRecDepth 100000 in
set_option maxHeartbeats 3200000 in
theorem refusal_1 (room fuse next : Int) (F : Option Addr) (nf cf : Nat) (K : Option Addr) (nk ck : Nat) (T : Option Addr) (nt ct : Nat) (name to_ : ByteArray) (A : Option Addr) (n c : Nat) (b m : Nat) (D : Dat) (w : World) (ho : OwnM w b m D) (h1 : name.size ≤ maxLen) (hn : nf ≤ 2000000) (hnt : nt ≤ 2000000) :
    Calls Tryz.prog 36 #[.agg #[.int .i64 room, .int .i64 fuse, .int .i64 next, .slice F nf cf, .slice K nk ck, .slice T nt ct], .map (some b), .agg #[.int .i64 1, .string name, .string to_, .slice A n c]] w fun e w' =>
      e = .returned (.int .i64 (codeD fuse next nf nt 1 (has D (kS name)) (to_.toList == name.toList))) ∧ Below w.heap.size w w' := by
  have hk1 := Lib.hid (keyS h1)
  have hoA := Lib.hid ((ho.alloc (.cells #[.int .i64 room, .int .i64 fuse, .int .i64 next, .slice F nf cf, .slice K nk ck, .slice T nt ct] 36)).alloc (.cells #[.int .i64 1, .string name, .string to_, .slice A n c] 40))
  have hb0 := Lib.hid (((Below.refl w.heap.size w).alloc (Nat.le_refl _) (.cells #[.int .i64 room, .int .i64 fuse, .int .i64 next, .slice F nf cf, .slice K nk ck, .slice T nt ct] 36)).alloc (by simp) (.cells #[.int .i64 1, .string name, .string to_, .slice A n c] 40))
  have hAdd := Lib.hid addsTurn_1
  clear h1 ho
  generalize hh : has D (kS name) = h at *
  have HH := Lib.hid hh
  clear hh
  cases heq : (to_.toList == name.toList)
  all_goals
    go_enter Tryz.func36, Tryz.ntmps36
    go_wp2_with (at_lookup; refine wpList_lookup_own_ok_int _ rfl _ _ 67 rfl 9 3 .i64 skey Tryz.underlying67 Tryz.underlying3 (zeroI _) b m D rfl hoA.out _ _ rfl hk1.out ?_)
    intro c hat hwc
    rw [HH.out]
    clear hat hwc
    cases h
    all_goals
      go_wp2_with (go_at_call 71; refine (hAdd.out _).mono ?_; rintro e w' ⟨rfl, rfl⟩)
      all_goals (first | (exfalso; omega) | (go_ret; exact ⟨ret_i (by unfold codeD; simp_all <;> omega), hb0.out⟩))

set_option maxRecDepth 100000 in
theorem addsTurn_2 (w : World) : Calls Tryz.prog 71 #[.int .i64 2] w fun e w' => e = .returned (.bool false) ∧ w' = w := by
  go_enter Tryz.func71, Tryz.ntmps71
  go_wp2_with fail
  go_ret
  exact ⟨rfl, rfl⟩

set_option maxRecDepth 100000 in
set_option maxHeartbeats 3200000 in
theorem refusal_2 (room fuse next : Int) (F : Option Addr) (nf cf : Nat) (K : Option Addr) (nk ck : Nat) (T : Option Addr) (nt ct : Nat) (name to_ : ByteArray) (A : Option Addr) (n c : Nat) (b m : Nat) (D : Dat) (w : World) (ho : OwnM w b m D) (h1 : name.size ≤ maxLen) (hn : nf ≤ 2000000) (hnt : nt ≤ 2000000) :
    Calls Tryz.prog 36 #[.agg #[.int .i64 room, .int .i64 fuse, .int .i64 next, .slice F nf cf, .slice K nk ck, .slice T nt ct], .map (some b), .agg #[.int .i64 2, .string name, .string to_, .slice A n c]] w fun e w' =>
      e = .returned (.int .i64 (codeD fuse next nf nt 2 (has D (kS name)) (to_.toList == name.toList))) ∧ Below w.heap.size w w' := by
  have hk1 := Lib.hid (keyS h1)
  have hoA := Lib.hid ((ho.alloc (.cells #[.int .i64 room, .int .i64 fuse, .int .i64 next, .slice F nf cf, .slice K nk ck, .slice T nt ct] 36)).alloc (.cells #[.int .i64 2, .string name, .string to_, .slice A n c] 40))
  have hb0 := Lib.hid (((Below.refl w.heap.size w).alloc (Nat.le_refl _) (.cells #[.int .i64 room, .int .i64 fuse, .int .i64 next, .slice F nf cf, .slice K nk ck, .slice T nt ct] 36)).alloc (by simp) (.cells #[.int .i64 2, .string name, .string to_, .slice A n c] 40))
  have hAdd := Lib.hid addsTurn_2
  clear h1 ho
  generalize hh : has D (kS name) = h at *
  have HH := Lib.hid hh
  clear hh
  cases heq : (to_.toList == name.toList)
  all_goals
    go_enter Tryz.func36, Tryz.ntmps36
    go_wp2_with (at_lookup; refine wpList_lookup_own_ok_int _ rfl _ _ 67 rfl 9 3 .i64 skey Tryz.underlying67 Tryz.underlying3 (zeroI _) b m D rfl hoA.out _ _ rfl hk1.out ?_)
    intro c hat hwc
    rw [HH.out]
    clear hat hwc
    cases h
    all_goals
      go_wp2_with (go_at_call 71; refine (hAdd.out _).mono ?_; rintro e w' ⟨rfl, rfl⟩)
      all_goals (first | (exfalso; omega) | (go_ret; exact ⟨ret_i (by unfold codeD; simp_all <;> omega), hb0.out⟩))

set_option maxRecDepth 100000 in
theorem addsTurn_3 (w : World) : Calls Tryz.prog 71 #[.int .i64 3] w fun e w' => e = .returned (.bool false) ∧ w' = w := by
  go_enter Tryz.func71, Tryz.ntmps71
  go_wp2_with fail
  go_ret
  exact ⟨rfl, rfl⟩

set_option maxRecDepth 100000 in
set_option maxHeartbeats 3200000 in
theorem refusal_3 (room fuse next : Int) (F : Option Addr) (nf cf : Nat) (K : Option Addr) (nk ck : Nat) (T : Option Addr) (nt ct : Nat) (name to_ : ByteArray) (A : Option Addr) (n c : Nat) (b m : Nat) (D : Dat) (w : World) (ho : OwnM w b m D) (h1 : name.size ≤ maxLen) (hn : nf ≤ 2000000) (hnt : nt ≤ 2000000) :
    Calls Tryz.prog 36 #[.agg #[.int .i64 room, .int .i64 fuse, .int .i64 next, .slice F nf cf, .slice K nk ck, .slice T nt ct], .map (some b), .agg #[.int .i64 3, .string name, .string to_, .slice A n c]] w fun e w' =>
      e = .returned (.int .i64 (codeD fuse next nf nt 3 (has D (kS name)) (to_.toList == name.toList))) ∧ Below w.heap.size w w' := by
  have hk1 := Lib.hid (keyS h1)
  have hoA := Lib.hid ((ho.alloc (.cells #[.int .i64 room, .int .i64 fuse, .int .i64 next, .slice F nf cf, .slice K nk ck, .slice T nt ct] 36)).alloc (.cells #[.int .i64 3, .string name, .string to_, .slice A n c] 40))
  have hb0 := Lib.hid (((Below.refl w.heap.size w).alloc (Nat.le_refl _) (.cells #[.int .i64 room, .int .i64 fuse, .int .i64 next, .slice F nf cf, .slice K nk ck, .slice T nt ct] 36)).alloc (by simp) (.cells #[.int .i64 3, .string name, .string to_, .slice A n c] 40))
  have hAdd := Lib.hid addsTurn_3
  clear h1 ho
  generalize hh : has D (kS name) = h at *
  have HH := Lib.hid hh
  clear hh
  cases heq : (to_.toList == name.toList)
  all_goals
    go_enter Tryz.func36, Tryz.ntmps36
    go_wp2_with (at_lookup; refine wpList_lookup_own_ok_int _ rfl _ _ 67 rfl 9 3 .i64 skey Tryz.underlying67 Tryz.underlying3 (zeroI _) b m D rfl hoA.out _ _ rfl hk1.out ?_)
    intro c hat hwc
    rw [HH.out]
    clear hat hwc
    cases h
    all_goals
      go_wp2_with (go_at_call 71; refine (hAdd.out _).mono ?_; rintro e w' ⟨rfl, rfl⟩)
      all_goals (first | (exfalso; omega) | (go_ret; exact ⟨ret_i (by unfold codeD; simp_all <;> omega), hb0.out⟩))

set_option maxRecDepth 100000 in
theorem addsTurn_4 (w : World) : Calls Tryz.prog 71 #[.int .i64 4] w fun e w' => e = .returned (.bool true) ∧ w' = w := by
  go_enter Tryz.func71, Tryz.ntmps71
  go_wp2_with fail
  go_ret
  exact ⟨rfl, rfl⟩

set_option maxRecDepth 100000 in
set_option maxHeartbeats 3200000 in
theorem refusal_4 (room fuse next : Int) (F : Option Addr) (nf cf : Nat) (K : Option Addr) (nk ck : Nat) (T : Option Addr) (nt ct : Nat) (name to_ : ByteArray) (A : Option Addr) (n c : Nat) (b m : Nat) (D : Dat) (w : World) (ho : OwnM w b m D) (h1 : name.size ≤ maxLen) (hn : nf ≤ 2000000) (hnt : nt ≤ 2000000) :
    Calls Tryz.prog 36 #[.agg #[.int .i64 room, .int .i64 fuse, .int .i64 next, .slice F nf cf, .slice K nk ck, .slice T nt ct], .map (some b), .agg #[.int .i64 4, .string name, .string to_, .slice A n c]] w fun e w' =>
      e = .returned (.int .i64 (codeD fuse next nf nt 4 (has D (kS name)) (to_.toList == name.toList))) ∧ Below w.heap.size w w' := by
  have hk1 := Lib.hid (keyS h1)
  have hoA := Lib.hid ((ho.alloc (.cells #[.int .i64 room, .int .i64 fuse, .int .i64 next, .slice F nf cf, .slice K nk ck, .slice T nt ct] 36)).alloc (.cells #[.int .i64 4, .string name, .string to_, .slice A n c] 40))
  have hb0 := Lib.hid (((Below.refl w.heap.size w).alloc (Nat.le_refl _) (.cells #[.int .i64 room, .int .i64 fuse, .int .i64 next, .slice F nf cf, .slice K nk ck, .slice T nt ct] 36)).alloc (by simp) (.cells #[.int .i64 4, .string name, .string to_, .slice A n c] 40))
  have hAdd := Lib.hid addsTurn_4
  clear h1 ho
  generalize hh : has D (kS name) = h at *
  have HH := Lib.hid hh
  clear hh
  cases heq : (to_.toList == name.toList)
  all_goals
    go_enter Tryz.func36, Tryz.ntmps36
    go_wp2_with (at_lookup; refine wpList_lookup_own_ok_int _ rfl _ _ 67 rfl 9 3 .i64 skey Tryz.underlying67 Tryz.underlying3 (zeroI _) b m D rfl hoA.out _ _ rfl hk1.out ?_)
    intro c hat hwc
    rw [HH.out]
    clear hat hwc
    cases h
    all_goals
      go_wp2_with (go_at_call 71; refine (hAdd.out _).mono ?_; rintro e w' ⟨rfl, rfl⟩)
      all_goals (first | (exfalso; omega) | (go_ret; exact ⟨ret_i (by unfold codeD; simp_all <;> omega), hb0.out⟩))

set_option maxRecDepth 100000 in
theorem addsTurn_5 (w : World) : Calls Tryz.prog 71 #[.int .i64 5] w fun e w' => e = .returned (.bool true) ∧ w' = w := by
  go_enter Tryz.func71, Tryz.ntmps71
  go_wp2_with fail
  go_ret
  exact ⟨rfl, rfl⟩

set_option maxRecDepth 100000 in
set_option maxHeartbeats 3200000 in
theorem refusal_5 (room fuse next : Int) (F : Option Addr) (nf cf : Nat) (K : Option Addr) (nk ck : Nat) (T : Option Addr) (nt ct : Nat) (name to_ : ByteArray) (A : Option Addr) (n c : Nat) (b m : Nat) (D : Dat) (w : World) (ho : OwnM w b m D) (h1 : name.size ≤ maxLen) (hn : nf ≤ 2000000) (hnt : nt ≤ 2000000) :
    Calls Tryz.prog 36 #[.agg #[.int .i64 room, .int .i64 fuse, .int .i64 next, .slice F nf cf, .slice K nk ck, .slice T nt ct], .map (some b), .agg #[.int .i64 5, .string name, .string to_, .slice A n c]] w fun e w' =>
      e = .returned (.int .i64 (codeD fuse next nf nt 5 (has D (kS name)) (to_.toList == name.toList))) ∧ Below w.heap.size w w' := by
  have hk1 := Lib.hid (keyS h1)
  have hoA := Lib.hid ((ho.alloc (.cells #[.int .i64 room, .int .i64 fuse, .int .i64 next, .slice F nf cf, .slice K nk ck, .slice T nt ct] 36)).alloc (.cells #[.int .i64 5, .string name, .string to_, .slice A n c] 40))
  have hb0 := Lib.hid (((Below.refl w.heap.size w).alloc (Nat.le_refl _) (.cells #[.int .i64 room, .int .i64 fuse, .int .i64 next, .slice F nf cf, .slice K nk ck, .slice T nt ct] 36)).alloc (by simp) (.cells #[.int .i64 5, .string name, .string to_, .slice A n c] 40))
  have hAdd := Lib.hid addsTurn_5
  clear h1 ho
  generalize hh : has D (kS name) = h at *
  have HH := Lib.hid hh
  clear hh
  cases heq : (to_.toList == name.toList)
  all_goals
    go_enter Tryz.func36, Tryz.ntmps36
    go_wp2_with (at_lookup; refine wpList_lookup_own_ok_int _ rfl _ _ 67 rfl 9 3 .i64 skey Tryz.underlying67 Tryz.underlying3 (zeroI _) b m D rfl hoA.out _ _ rfl hk1.out ?_)
    intro c hat hwc
    rw [HH.out]
    clear hat hwc
    cases h
    all_goals
      go_wp2_with (go_at_call 71; refine (hAdd.out _).mono ?_; rintro e w' ⟨rfl, rfl⟩)
      all_goals (first | (exfalso; omega) | (go_ret; exact ⟨ret_i (by unfold codeD; simp_all <;> omega), hb0.out⟩))

set_option maxRecDepth 100000 in
theorem addsTurn_6 (w : World) : Calls Tryz.prog 71 #[.int .i64 6] w fun e w' => e = .returned (.bool false) ∧ w' = w := by
  go_enter Tryz.func71, Tryz.ntmps71
  go_wp2_with fail
  go_ret
  exact ⟨rfl, rfl⟩

set_option maxRecDepth 100000 in
set_option maxHeartbeats 3200000 in
theorem refusal_6 (room fuse next : Int) (F : Option Addr) (nf cf : Nat) (K : Option Addr) (nk ck : Nat) (T : Option Addr) (nt ct : Nat) (name to_ : ByteArray) (A : Option Addr) (n c : Nat) (b m : Nat) (D : Dat) (w : World) (ho : OwnM w b m D) (h1 : name.size ≤ maxLen) (hn : nf ≤ 2000000) (hnt : nt ≤ 2000000) :
    Calls Tryz.prog 36 #[.agg #[.int .i64 room, .int .i64 fuse, .int .i64 next, .slice F nf cf, .slice K nk ck, .slice T nt ct], .map (some b), .agg #[.int .i64 6, .string name, .string to_, .slice A n c]] w fun e w' =>
      e = .returned (.int .i64 (codeD fuse next nf nt 6 (has D (kS name)) (to_.toList == name.toList))) ∧ Below w.heap.size w w' := by
  have hk1 := Lib.hid (keyS h1)
  have hoA := Lib.hid ((ho.alloc (.cells #[.int .i64 room, .int .i64 fuse, .int .i64 next, .slice F nf cf, .slice K nk ck, .slice T nt ct] 36)).alloc (.cells #[.int .i64 6, .string name, .string to_, .slice A n c] 40))
  have hb0 := Lib.hid (((Below.refl w.heap.size w).alloc (Nat.le_refl _) (.cells #[.int .i64 room, .int .i64 fuse, .int .i64 next, .slice F nf cf, .slice K nk ck, .slice T nt ct] 36)).alloc (by simp) (.cells #[.int .i64 6, .string name, .string to_, .slice A n c] 40))
  have hAdd := Lib.hid addsTurn_6
  clear h1 ho
  generalize hh : has D (kS name) = h at *
  have HH := Lib.hid hh
  clear hh
  cases heq : (to_.toList == name.toList)
  all_goals
    go_enter Tryz.func36, Tryz.ntmps36
    go_wp2_with (at_lookup; refine wpList_lookup_own_ok_int _ rfl _ _ 67 rfl 9 3 .i64 skey Tryz.underlying67 Tryz.underlying3 (zeroI _) b m D rfl hoA.out _ _ rfl hk1.out ?_)
    intro c hat hwc
    rw [HH.out]
    clear hat hwc
    cases h
    all_goals
      go_wp2_with (go_at_call 71; refine (hAdd.out _).mono ?_; rintro e w' ⟨rfl, rfl⟩)
      all_goals (first | (exfalso; omega) | (go_ret; exact ⟨ret_i (by unfold codeD; simp_all <;> omega), hb0.out⟩))

theorem refusal_any (room fuse next : Int) (F : Option Addr) (nf cf : Nat) (K : Option Addr) (nk ck : Nat) (T : Option Addr) (nt ct : Nat) (k : Int) (hk : 1 ≤ k ∧ k ≤ 6) (name to_ : ByteArray) (A : Option Addr) (n c : Nat) (b m : Nat) (D : Dat) (w : World) (ho : OwnM w b m D) (h1 : name.size ≤ maxLen) (hn : nf ≤ 2000000) (hnt : nt ≤ 2000000) :
    Calls Tryz.prog 36 #[.agg #[.int .i64 room, .int .i64 fuse, .int .i64 next, .slice F nf cf, .slice K nk ck, .slice T nt ct], .map (some b), .agg #[.int .i64 k, .string name, .string to_, .slice A n c]] w fun e w' =>
      e = .returned (.int .i64 (codeD fuse next nf nt k (has D (kS name)) (to_.toList == name.toList))) ∧ Below w.heap.size w w' := by
  have : k = 1 ∨ k = 2 ∨ k = 3 ∨ k = 4 ∨ k = 5 ∨ k = 6 := by omega
  rcases this with rfl | rfl | rfl | rfl | rfl | rfl
  · exact refusal_1 room fuse next F nf cf K nk ck T nt ct name to_ A n c b m D w ho h1 hn hnt
  · exact refusal_2 room fuse next F nf cf K nk ck T nt ct name to_ A n c b m D w ho h1 hn hnt
  · exact refusal_3 room fuse next F nf cf K nk ck T nt ct name to_ A n c b m D w ho h1 hn hnt
  · exact refusal_4 room fuse next F nf cf K nk ck T nt ct name to_ A n c b m D w ho h1 hn hnt
  · exact refusal_5 room fuse next F nf cf K nk ck T nt ct name to_ A n c b m D w ho h1 hn hnt
  · exact refusal_6 room fuse next F nf cf K nk ck T nt ct name to_ A n c b m D w ho h1 hn hnt
end Go.Proofs.YtfkdfabbpebljaaGreat.DOk
