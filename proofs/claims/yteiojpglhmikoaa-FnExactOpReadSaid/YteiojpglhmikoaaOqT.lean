/- The model's reader: a number, numbers, a string. -/
import Derived.Test.YteiojpglhmikoaaOqP
import Derived.Test.YteiojpglhmikoaaOqIn
import Derived.Test.YteiojpglhmikoaaGetSpec
import Derived.Test.YteiojpglhmikoaaGetText
import Derived.Test.YteiojpglhmikoaaFramePlain
import Derived.Test.YteiojpglhmikoaaIntsB
import Derived.Test.YteiojpglhmikoaaAppOne
import Derived.Deep.RegionHeld3
import Derived.Deep.DrawnRows
namespace Go.Proofs.Yteiojpglhmikoaa.Oq
open Go.RowKit Go.Proofs.Yteiojpglhmikoaa.Bytes Go.Proofs.Yteiojpglhmikoaa.Opq Go.Proofs.Yteiojpglhmikoaa.Var Go.Proofs.Yteiojpglhmikoaa.DOk
set_option linter.unusedVariables false
set_option linter.unusedSimpArgs false
attribute [local go_sem ↓] Go.wp_at_zero Go.wp_at_succ
/-- the reader in memory stands at p; at -1 it is bad -/
def SpR (w : World) (g : Nat) (A : Option Addr) (n c : Nat) (p : Int) : Prop := ∃ (at_ : Int) (bad : Bool), RowB w g #[.slice A n c, .int .i64 at_, .bool bad] ∧ ((bad = false ∧ at_ = p ∧ p ≠ -1) ∨ (bad = true ∧ p = -1))
theorem grownO {w w' : World} (h : Below w.heap.size w w') (row : Option Nat) : w.grownBy w' row := ⟨h.os, h.tape, h.output, h.size, fun k hk _ => h.block k hk⟩
theorem grownO_below {w w' : World} {g B : Nat} (h : w.grownBy w' (some g)) (hB : B ≤ g) (hw : B ≤ w.heap.size) : Below B w w' := ⟨h.os, h.tape, h.output, h.size, fun k hk => h.block k (by omega) (fun e => by injection e with e; omega)⟩
theorem gvE_pos {zs : List Int} {p : Int} (h : gvOk zs p = true) : gvE zs p ≠ -1 := by
  obtain ⟨V, E, h1, h2, h3, h4⟩ := gv_nat h
  rw [h2]; omega
theorem gtE_pos {zs : List Int} {p : Int} (h : gtOk zs p = true) : gtE zs p ≠ -1 := by
  have h0 := h
  unfold gtOk at h0
  simp only [Bool.and_eq_true, decide_eq_true_eq] at h0
  obtain ⟨V, E, h1, h2, h3, h4⟩ := gv_nat h0.1.1
  unfold gtE; rw [if_pos h, h1, h2]; omega
set_option maxRecDepth 100000 in
set_option maxHeartbeats 3200000 in
theorem l12Var_any (A : Option Addr) (n c g B : Nat) (zs : List Int) (p : Int) (w : World) (hw : SpR w g A n c p) (hr : Rd w B A zs) (hB : B ≤ g) (hg : Rng zs) (hl : zs.length = n) (hn : n ≤ 1099511627776) (hnc : n ≤ c) :
    Calls Try.prog 103 #[.pointer (some ⟨g, 0, none⟩)] w fun e w' => e = .returned (.int .i64 (gvN zs p)) ∧ SpR w' g A n c (rN zs p) ∧ w.grownBy w' (some g) := by
  obtain ⟨at_, bad, hrow, hcase⟩ := hw
  have hlt := hrow.lt
  have HC := Lib.hid (fun W (hq : Rd W W.heap.size A zs) => spec_GetVar_any A n c zs at_ W hq hg hl hn hnc)
  have k0 : w.cell? ⟨g, 0, none⟩ = some (.slice A n c) := hrow.cell 0
  have k1 : w.cell? ⟨g, 1, none⟩ = some (.int .i64 at_) := hrow.cell 1
  have HW := Lib.hid hrow
  have HRW := Lib.hid (show Rd w.drew w.drew.heap.size A zs from hr.more (B' := w.heap.size) (by omega))
  clear hrow hr hg hl
  rcases hcase with ⟨rfl, rfl, hp⟩ | ⟨rfl, rfl⟩
  · cases q : gvOk zs at_
    · skip
      have HD := Lib.hid (fun W (hq : Rd W W.heap.size A zs) => show Calls Try.prog 119 #[.slice A n c, .int .i64 at_] W (fun e w' => e = .returned (.tuple #[(.int .i64 (gvN zs at_)), .int .i64 (gvE zs at_), .bool false]) ∧ Below W.heap.size W w') from (HC.out W hq).mono fun e w' ⟨he, hb⟩ => ⟨by rw [he]; unfold gvRet; rw [q], hb⟩)
      have HN := Lib.hid (show rN zs at_ = -1 by unfold rN; rw [if_neg (by rw [q]; decide)])
      have HZ := Lib.hid (show ((.int .i64 (gvN zs at_)) : Value) = (.int .i64 0) by rw [(gv_no q).1])
      clear q HC
      go_enter Try.func103, Try.ntmps103
      go_wp2_with fail
      go_region_held3 (fun w' => w'.cell? ⟨g, 0, none⟩ = some (.slice A n c) ∧ w'.cell? ⟨g, 1, none⟩ = some (.int .i64 at_)) (first | assumption | go_keep) (first
        | (go_at_call 119; (with_reducible refine (HD.out _ HRW.out).mono ?_); rintro e v ⟨rfl, hb'⟩; have hb : Below w.heap.size w v := undrewO hb'; clear hb'; have HB := Lib.hid hb; have HV := Lib.hid (HW.out.below hb hlt); have j0 : v.cell? ⟨g, 0, none⟩ = some (.slice A n c) := HV.out.cell 0; have j1 : v.cell? ⟨g, 1, none⟩ = some (.int .i64 at_) := HV.out.cell 1; have j2 : v.cell? ⟨g, 2, none⟩ = some (.bool false) := HV.out.cell 2; have x1 : v.frozen? ⟨g, 1, none⟩ = false := HV.out.free 1; have x2 : v.frozen? ⟨g, 2, none⟩ = false := HV.out.free 2; have hltv : g < v.heap.size := HV.out.lt; clear hb))
      all_goals
        go_wp2_with fail
        go_ret
        exact ⟨(by rw [HZ.out]; rfl), ⟨at_, true, HV.out.set, .inr ⟨rfl, HN.out⟩⟩, grown_trans (grownO HB.out _) (Go.Lib.grownBy_setCell _ _ _ _)⟩
    · skip
      have HD := Lib.hid (fun W (hq : Rd W W.heap.size A zs) => show Calls Try.prog 119 #[.slice A n c, .int .i64 at_] W (fun e w' => e = .returned (.tuple #[(.int .i64 (gvN zs at_)), .int .i64 (gvE zs at_), .bool true]) ∧ Below W.heap.size W w') from (HC.out W hq).mono fun e w' ⟨he, hb⟩ => ⟨by rw [he]; unfold gvRet; rw [q], hb⟩)
      have HN := Lib.hid (show rN zs at_ = gvE zs at_ by unfold rN; rw [if_pos q])
      have HP := Lib.hid (gvE_pos q)
      clear q HC
      go_enter Try.func103, Try.ntmps103
      go_wp2_with fail
      go_region_held3 (fun w' => w'.cell? ⟨g, 0, none⟩ = some (.slice A n c) ∧ w'.cell? ⟨g, 1, none⟩ = some (.int .i64 at_)) (first | assumption | go_keep) (first
        | (go_at_call 119; (with_reducible refine (HD.out _ HRW.out).mono ?_); rintro e v ⟨rfl, hb'⟩; have hb : Below w.heap.size w v := undrewO hb'; clear hb'; have HB := Lib.hid hb; have HV := Lib.hid (HW.out.below hb hlt); have j0 : v.cell? ⟨g, 0, none⟩ = some (.slice A n c) := HV.out.cell 0; have j1 : v.cell? ⟨g, 1, none⟩ = some (.int .i64 at_) := HV.out.cell 1; have j2 : v.cell? ⟨g, 2, none⟩ = some (.bool false) := HV.out.cell 2; have x1 : v.frozen? ⟨g, 1, none⟩ = false := HV.out.free 1; have x2 : v.frozen? ⟨g, 2, none⟩ = false := HV.out.free 2; have hltv : g < v.heap.size := HV.out.lt; clear hb))
      all_goals
        go_wp2_with fail
        go_ret
        exact ⟨rfl, ⟨gvE zs at_, false, HV.out.set, .inl ⟨rfl, HN.out.symm, by rw [HN.out]; exact HP.out⟩⟩, grown_trans (grownO HB.out _) (Go.Lib.grownBy_setCell _ _ _ _)⟩
  · have HN := Lib.hid (rN_neg zs)
    have HZ := Lib.hid (show ((.int .i64 (gvN zs (-1))) : Value) = (.int .i64 0) by rw [(gv_no (gvOk_neg zs)).1])
    cases q : gvOk zs at_
    · skip
      have HD := Lib.hid (fun W (hq : Rd W W.heap.size A zs) => show Calls Try.prog 119 #[.slice A n c, .int .i64 at_] W (fun e w' => e = .returned (.tuple #[(.int .i64 (gvN zs at_)), .int .i64 (gvE zs at_), .bool false]) ∧ Below W.heap.size W w') from (HC.out W hq).mono fun e w' ⟨he, hb⟩ => ⟨by rw [he]; unfold gvRet; rw [q], hb⟩)
      clear q HC
      go_enter Try.func103, Try.ntmps103
      go_wp2_with fail
      go_region_held3 (fun w' => w'.cell? ⟨g, 0, none⟩ = some (.slice A n c) ∧ w'.cell? ⟨g, 1, none⟩ = some (.int .i64 at_)) (first | assumption | go_keep) (first
        | (go_at_call 119; (with_reducible refine (HD.out _ HRW.out).mono ?_); rintro e v ⟨rfl, hb'⟩; have hb : Below w.heap.size w v := undrewO hb'; clear hb'; have HB := Lib.hid hb; have HV := Lib.hid (HW.out.below hb hlt); have j0 : v.cell? ⟨g, 0, none⟩ = some (.slice A n c) := HV.out.cell 0; have j1 : v.cell? ⟨g, 1, none⟩ = some (.int .i64 at_) := HV.out.cell 1; have j2 : v.cell? ⟨g, 2, none⟩ = some (.bool true) := HV.out.cell 2; have x1 : v.frozen? ⟨g, 1, none⟩ = false := HV.out.free 1; have x2 : v.frozen? ⟨g, 2, none⟩ = false := HV.out.free 2; have hltv : g < v.heap.size := HV.out.lt; clear hb))
      all_goals
        go_wp2_with fail
        go_ret
        exact ⟨(by rw [HZ.out]; rfl), ⟨at_, true, HV.out.set, .inr ⟨rfl, HN.out⟩⟩, grown_trans (grownO HB.out _) (Go.Lib.grownBy_setCell _ _ _ _)⟩
    · skip
      have HD := Lib.hid (fun W (hq : Rd W W.heap.size A zs) => show Calls Try.prog 119 #[.slice A n c, .int .i64 at_] W (fun e w' => e = .returned (.tuple #[(.int .i64 (gvN zs at_)), .int .i64 (gvE zs at_), .bool true]) ∧ Below W.heap.size W w') from (HC.out W hq).mono fun e w' ⟨he, hb⟩ => ⟨by rw [he]; unfold gvRet; rw [q], hb⟩)
      clear q HC
      go_enter Try.func103, Try.ntmps103
      go_wp2_with fail
      go_region_held3 (fun w' => w'.cell? ⟨g, 0, none⟩ = some (.slice A n c) ∧ w'.cell? ⟨g, 1, none⟩ = some (.int .i64 at_)) (first | assumption | go_keep) (first
        | (go_at_call 119; (with_reducible refine (HD.out _ HRW.out).mono ?_); rintro e v ⟨rfl, hb'⟩; have hb : Below w.heap.size w v := undrewO hb'; clear hb'; have HB := Lib.hid hb; have HV := Lib.hid (HW.out.below hb hlt); have j0 : v.cell? ⟨g, 0, none⟩ = some (.slice A n c) := HV.out.cell 0; have j1 : v.cell? ⟨g, 1, none⟩ = some (.int .i64 at_) := HV.out.cell 1; have j2 : v.cell? ⟨g, 2, none⟩ = some (.bool true) := HV.out.cell 2; have x1 : v.frozen? ⟨g, 1, none⟩ = false := HV.out.free 1; have x2 : v.frozen? ⟨g, 2, none⟩ = false := HV.out.free 2; have hltv : g < v.heap.size := HV.out.lt; clear hb))
      all_goals
        go_wp2_with fail
        go_ret
        exact ⟨(by rw [HZ.out]; rfl), ⟨at_, true, HV.out.set, .inr ⟨rfl, HN.out⟩⟩, grown_trans (grownO HB.out _) (Go.Lib.grownBy_setCell _ _ _ _)⟩
set_option maxRecDepth 100000 in
set_option maxHeartbeats 3200000 in
theorem l15Text_any (A : Option Addr) (n c g B : Nat) (zs : List Int) (p : Int) (w : World) (hw : SpR w g A n c p) (hr : Rd w B A zs) (hB : B ≤ g) (hg : Rng zs) (hl : zs.length = n) (hn : n ≤ 1099511627776) (hnc : n ≤ c) :
    Calls Try.prog 78 #[.pointer (some ⟨g, 0, none⟩)] w fun e w' => e = .returned (.string (gtS zs p)) ∧ SpR w' g A n c (rT zs p) ∧ w.grownBy w' (some g) := by
  obtain ⟨at_, bad, hrow, hcase⟩ := hw
  have hlt := hrow.lt
  have HC := Lib.hid (fun W (hq : Rd W W.heap.size A zs) => spec_GetText_any A n c zs at_ W hq hg hl hn hnc)
  have k0 : w.cell? ⟨g, 0, none⟩ = some (.slice A n c) := hrow.cell 0
  have k1 : w.cell? ⟨g, 1, none⟩ = some (.int .i64 at_) := hrow.cell 1
  have HW := Lib.hid hrow
  have HRW := Lib.hid (show Rd w.drew w.drew.heap.size A zs from hr.more (B' := w.heap.size) (by omega))
  clear hrow hr hg hl
  rcases hcase with ⟨rfl, rfl, hp⟩ | ⟨rfl, rfl⟩
  · cases q : gtOk zs at_
    · skip
      have HD := Lib.hid (fun W (hq : Rd W W.heap.size A zs) => show Calls Try.prog 104 #[.slice A n c, .int .i64 at_] W (fun e w' => e = .returned (.tuple #[(.string (gtS zs at_)), .int .i64 (gtE zs at_), .bool false]) ∧ Below W.heap.size W w') from (HC.out W hq).mono fun e w' ⟨he, hb⟩ => ⟨by rw [he]; unfold gtRet; rw [q], hb⟩)
      have HN := Lib.hid (show rT zs at_ = -1 by unfold rT; rw [if_neg (by rw [q]; decide)])
      have HZ := Lib.hid (show ((.string (gtS zs at_)) : Value) = (.string ⟨#[]⟩) by rw [(gt_no q).2])
      clear q HC
      go_enter Try.func78, Try.ntmps78
      go_wp2_with fail
      go_region_held3 (fun w' => w'.cell? ⟨g, 0, none⟩ = some (.slice A n c) ∧ w'.cell? ⟨g, 1, none⟩ = some (.int .i64 at_)) (first | assumption | go_keep) (first
        | (go_at_call 104; (with_reducible refine (HD.out _ HRW.out).mono ?_); rintro e v ⟨rfl, hb'⟩; have hb : Below w.heap.size w v := undrewO hb'; clear hb'; have HB := Lib.hid hb; have HV := Lib.hid (HW.out.below hb hlt); have j0 : v.cell? ⟨g, 0, none⟩ = some (.slice A n c) := HV.out.cell 0; have j1 : v.cell? ⟨g, 1, none⟩ = some (.int .i64 at_) := HV.out.cell 1; have j2 : v.cell? ⟨g, 2, none⟩ = some (.bool false) := HV.out.cell 2; have x1 : v.frozen? ⟨g, 1, none⟩ = false := HV.out.free 1; have x2 : v.frozen? ⟨g, 2, none⟩ = false := HV.out.free 2; have hltv : g < v.heap.size := HV.out.lt; clear hb))
      all_goals
        go_wp2_with fail
        go_ret
        exact ⟨(by rw [HZ.out]; rfl), ⟨at_, true, HV.out.set, .inr ⟨rfl, HN.out⟩⟩, grown_trans (grownO HB.out _) (Go.Lib.grownBy_setCell _ _ _ _)⟩
    · skip
      have HD := Lib.hid (fun W (hq : Rd W W.heap.size A zs) => show Calls Try.prog 104 #[.slice A n c, .int .i64 at_] W (fun e w' => e = .returned (.tuple #[(.string (gtS zs at_)), .int .i64 (gtE zs at_), .bool true]) ∧ Below W.heap.size W w') from (HC.out W hq).mono fun e w' ⟨he, hb⟩ => ⟨by rw [he]; unfold gtRet; rw [q], hb⟩)
      have HN := Lib.hid (show rT zs at_ = gtE zs at_ by unfold rT; rw [if_pos q])
      have HP := Lib.hid (gtE_pos q)
      clear q HC
      go_enter Try.func78, Try.ntmps78
      go_wp2_with fail
      go_region_held3 (fun w' => w'.cell? ⟨g, 0, none⟩ = some (.slice A n c) ∧ w'.cell? ⟨g, 1, none⟩ = some (.int .i64 at_)) (first | assumption | go_keep) (first
        | (go_at_call 104; (with_reducible refine (HD.out _ HRW.out).mono ?_); rintro e v ⟨rfl, hb'⟩; have hb : Below w.heap.size w v := undrewO hb'; clear hb'; have HB := Lib.hid hb; have HV := Lib.hid (HW.out.below hb hlt); have j0 : v.cell? ⟨g, 0, none⟩ = some (.slice A n c) := HV.out.cell 0; have j1 : v.cell? ⟨g, 1, none⟩ = some (.int .i64 at_) := HV.out.cell 1; have j2 : v.cell? ⟨g, 2, none⟩ = some (.bool false) := HV.out.cell 2; have x1 : v.frozen? ⟨g, 1, none⟩ = false := HV.out.free 1; have x2 : v.frozen? ⟨g, 2, none⟩ = false := HV.out.free 2; have hltv : g < v.heap.size := HV.out.lt; clear hb))
      all_goals
        go_wp2_with fail
        go_ret
        exact ⟨rfl, ⟨gtE zs at_, false, HV.out.set, .inl ⟨rfl, HN.out.symm, by rw [HN.out]; exact HP.out⟩⟩, grown_trans (grownO HB.out _) (Go.Lib.grownBy_setCell _ _ _ _)⟩
  · have HN := Lib.hid (rT_neg zs)
    have HZ := Lib.hid (show ((.string (gtS zs (-1))) : Value) = (.string ⟨#[]⟩) by rw [(gt_no ((gtOk_no (gvOk_neg zs)))).2])
    cases q : gtOk zs at_
    · skip
      have HD := Lib.hid (fun W (hq : Rd W W.heap.size A zs) => show Calls Try.prog 104 #[.slice A n c, .int .i64 at_] W (fun e w' => e = .returned (.tuple #[(.string (gtS zs at_)), .int .i64 (gtE zs at_), .bool false]) ∧ Below W.heap.size W w') from (HC.out W hq).mono fun e w' ⟨he, hb⟩ => ⟨by rw [he]; unfold gtRet; rw [q], hb⟩)
      clear q HC
      go_enter Try.func78, Try.ntmps78
      go_wp2_with fail
      go_region_held3 (fun w' => w'.cell? ⟨g, 0, none⟩ = some (.slice A n c) ∧ w'.cell? ⟨g, 1, none⟩ = some (.int .i64 at_)) (first | assumption | go_keep) (first
        | (go_at_call 104; (with_reducible refine (HD.out _ HRW.out).mono ?_); rintro e v ⟨rfl, hb'⟩; have hb : Below w.heap.size w v := undrewO hb'; clear hb'; have HB := Lib.hid hb; have HV := Lib.hid (HW.out.below hb hlt); have j0 : v.cell? ⟨g, 0, none⟩ = some (.slice A n c) := HV.out.cell 0; have j1 : v.cell? ⟨g, 1, none⟩ = some (.int .i64 at_) := HV.out.cell 1; have j2 : v.cell? ⟨g, 2, none⟩ = some (.bool true) := HV.out.cell 2; have x1 : v.frozen? ⟨g, 1, none⟩ = false := HV.out.free 1; have x2 : v.frozen? ⟨g, 2, none⟩ = false := HV.out.free 2; have hltv : g < v.heap.size := HV.out.lt; clear hb))
      all_goals
        go_wp2_with fail
        go_ret
        exact ⟨(by rw [HZ.out]; rfl), ⟨at_, true, HV.out.set, .inr ⟨rfl, HN.out⟩⟩, grown_trans (grownO HB.out _) (Go.Lib.grownBy_setCell _ _ _ _)⟩
    · skip
      have HD := Lib.hid (fun W (hq : Rd W W.heap.size A zs) => show Calls Try.prog 104 #[.slice A n c, .int .i64 at_] W (fun e w' => e = .returned (.tuple #[(.string (gtS zs at_)), .int .i64 (gtE zs at_), .bool true]) ∧ Below W.heap.size W w') from (HC.out W hq).mono fun e w' ⟨he, hb⟩ => ⟨by rw [he]; unfold gtRet; rw [q], hb⟩)
      clear q HC
      go_enter Try.func78, Try.ntmps78
      go_wp2_with fail
      go_region_held3 (fun w' => w'.cell? ⟨g, 0, none⟩ = some (.slice A n c) ∧ w'.cell? ⟨g, 1, none⟩ = some (.int .i64 at_)) (first | assumption | go_keep) (first
        | (go_at_call 104; (with_reducible refine (HD.out _ HRW.out).mono ?_); rintro e v ⟨rfl, hb'⟩; have hb : Below w.heap.size w v := undrewO hb'; clear hb'; have HB := Lib.hid hb; have HV := Lib.hid (HW.out.below hb hlt); have j0 : v.cell? ⟨g, 0, none⟩ = some (.slice A n c) := HV.out.cell 0; have j1 : v.cell? ⟨g, 1, none⟩ = some (.int .i64 at_) := HV.out.cell 1; have j2 : v.cell? ⟨g, 2, none⟩ = some (.bool true) := HV.out.cell 2; have x1 : v.frozen? ⟨g, 1, none⟩ = false := HV.out.free 1; have x2 : v.frozen? ⟨g, 2, none⟩ = false := HV.out.free 2; have hltv : g < v.heap.size := HV.out.lt; clear hb))
      all_goals
        go_wp2_with fail
        go_ret
        exact ⟨(by rw [HZ.out]; rfl), ⟨at_, true, HV.out.set, .inr ⟨rfl, HN.out⟩⟩, grown_trans (grownO HB.out _) (Go.Lib.grownBy_setCell _ _ _ _)⟩
/-- the numbers that are read up to the first defect, and where the reader stands behind them -/
def varsL (zs : List Int) : Nat → Int → List Int
  | 0, _ => []
  | m + 1, p => if p = -1 then [] else gvN zs p :: varsL zs m (rN zs p)
def varsP (zs : List Int) : Nat → Int → Int
  | 0, p => p
  | m + 1, p => varsP zs m (rN zs p)
theorem varsP_neg (zs : List Int) : ∀ m, varsP zs m (-1) = -1
  | 0 => rfl
  | m + 1 => by rw [varsP, rN_neg, varsP_neg zs m]
theorem varsL_neg (zs : List Int) (m : Nat) : varsL zs m (-1) = [] := by cases m <;> simp [varsL]
theorem varsL_len (zs : List Int) : ∀ m p, (varsL zs m p).length ≤ m
  | 0, _ => by simp [varsL]
  | m + 1, p => by
    have := varsL_len zs m (rN zs p)
    rw [varsL]; split <;> simp <;> omega
theorem append_intO {wr : World} {ops : Array Oper} {rest : List Oper} {o : Oper} {a : Act} {Q : Exit → Act → World → Prop} (hgd : o.guard = none) (s x : Operand)
    (ho : o.op = .call { callee := .builtin .append, args := #[s, x], argTypes := #[107, 107] })
    {base n c : Nat} {A : Option Addr} {xs : List Int} {z : Int} (hs : a.eval s = .slice A n c) (H : Nat) (hH : wr.heap.size = H) (hx : a.eval x = .slice (some ⟨H, 0, none⟩) 1 1)
    (hown : OwnI wr base A n c xs) (hn : n ≤ 549755813888) (hbase : base ≤ wr.heap.size)
    (h : ∀ A' c' w', OwnI w' base A' (n + 1) c' (xs ++ [z]) → wr.grownBy w' (Value.slice A n c).ownBlock → wpList Try.prog ops Q rest (a.put o.dst (.slice A' (n + 1) c')) w') :
    wpList Try.prog ops Q (o :: rest) a (wr.alloc (.cells #[.int .i64 z] 3)) := by
  obtain ⟨i0, hi, hz0, hz1, hz2⟩ := info_parts intInfo
  refine AppOne.append_one Try.underlying107 hi hz0 hz1 hz2 rfl (by decide) hgd s x ho hs H hH hx hown rfl hn hbase ?_
  intro A' c' w' h1 h2 h3
  refine h A' c' w' ?_ h2
  have e : iv xs ++ [.int .i64 z] = iv (xs ++ [z]) := by simp [iv]
  rw [e] at h1; exact h1
theorem own_zeroO (w : World) : OwnI (w.alloc (.cells #[] 3)) w.heap.size (some ⟨w.heap.size, 0, none⟩) 0 0 [] := World.ownsRow_lit w #[] 0 (Nat.le_refl _) (by decide) rfl
set_option maxRecDepth 100000 in
set_option maxHeartbeats 3200000 in
theorem l12Vars_any (A : Option Addr) (n c g B m : Nat) (zs : List Int) (p : Int) (w : World) (hw : SpR w g A n c p) (hr : Rd w B A zs) (hB : B ≤ g) (hg : Rng zs) (hl : zs.length = n) (hn : n ≤ 1099511627776) (hnc : n ≤ c) (hm : m ≤ 1000000) :
    Calls Try.prog 77 #[.pointer (some ⟨g, 0, none⟩), .int .i64 m] w fun e w' => ∃ A' n' c', e = .returned (.slice A' n' c') ∧ OwnI w' w.heap.size A' n' c' (varsL zs m p) ∧ SpR w' g A n c (varsP zs m p) ∧ w.grownBy w' (some g) := by
  have hlt : g < w.heap.size := by obtain ⟨a, b, h, _⟩ := hw; exact h.lt
  have HV := Lib.hid (fun p W (h1 : SpR W g A n c p) (h2 : Rd W B A zs) => l12Var_any A n c g B zs p W h1 h2 hB hg hl hn hnc)
  have HW := Lib.hid hw
  have HR := Lib.hid hr
  clear hw hr hg hl
  have HO0 := Lib.hid (own_zeroO w)
  have HG0 := Lib.hid (grownO ((Below.refl w.heap.size w).alloc (Nat.le_refl _) (.cells #[] 3)) (some g))
  have HS0 := Lib.hid (show SpR (w.alloc (.cells #[] 3)) g A n c p from by obtain ⟨a, b, h, hc⟩ := HW.out; exact ⟨a, b, h.alloc _, hc⟩)
  go_enter Try.func77, Try.ntmps77
  go_wp2_with fail
  go_loopw [5, 6] (fun o i wr => ∃ (j : Nat) (A2 : Option Addr) (n2 c2 : Nat) (acc : List Int) (p' : Int), j ≤ m ∧ i = .int .i64 j ∧ o = .slice A2 n2 c2 ∧ OwnI wr w.heap.size A2 n2 c2 acc ∧ n2 ≤ j ∧ Hid (acc ++ varsL zs (m - j) p' = varsL zs m p) ∧ Hid (varsP zs (m - j) p' = varsP zs m p) ∧ SpR wr g A n c p' ∧ w.grownBy wr (some g)) (fun _ i _ => m - (intOf i).toNat)
  case atStart => exact ⟨0, _, 0, 0, [], p, Nat.zero_le _, rfl, rfl, HO0.out, Nat.le_refl _, Lib.hid (by simp), Lib.hid (by simp), HS0.out, HG0.out⟩
  case round =>
    obtain ⟨j, A2, n2, c2, acc, p', hj, rfl, rfl, ho, hn2, HL, HP, hs, hgr⟩ := hrel
    have HO := Lib.hid ho
    have HS := Lib.hid hs
    have HG := Lib.hid hgr
    have hsz := hgr.size
    clear ho hs hgr
    by_cases hlt2 : j < m
    · obtain ⟨at_, bad, hrow, hcase⟩ := HS.out
      have k2 : wr.cell? ⟨g, 2, none⟩ = some (.bool bad) := hrow.cell 2
      have HRW := Lib.hid hrow
      clear hrow
      rcases hcase with ⟨rfl, rfl, hp⟩ | ⟨rfl, rfl⟩
      · have HP1 := Lib.hid hp
        clear hp
        go_wp2_with fail
        refine (HV.out at_ _ HS.out (HR.out.below (B' := B) (Nat.le_refl _) (grownO_below HG.out hB (by omega)))).mono ?_
        rintro e v1 ⟨rfl, hs1, hg1⟩
        have HS1 := Lib.hid hs1
        have HG1 := Lib.hid (grown_trans HG.out hg1)
        have hz1 := hg1.size
        have HO1 := Lib.hid (show OwnI v1 w.heap.size A2 n2 c2 acc from World.ownsRow.kept (h := HO.out) hg1 (by
          rcases he : (Value.slice A2 n2 c2).ownBlock with _ | x
          · exact .inl rfl
          · refine .inr (fun e => ?_)
            injection e with e
            have := (HO.out.blk x he).1
            omega))
        clear hs1 hg1 k2
        go_wp2_with (at_builtin; refine append_intO rfl _ _ rfl rfl _ rfl rfl HO1.out (by omega) (by omega) ?_)
        intro A3 c3 v2 ho3 hg3
        have HO3 := Lib.hid ho3
        have hw3 : ∀ x, (Value.slice A2 n2 c2).ownBlock = some x → w.heap.size ≤ x := fun x hx => (HO1.out.blk x hx).1
        have hb3 : Below w.heap.size v1 v2 := (Below.refl _ _).grown hg3 (by omega) (fun x hx => hw3 x hx)
        have HS3 := Lib.hid (show SpR v2 g A n c (rN zs at_) from by obtain ⟨a, b, h, hc⟩ := HS1.out; exact ⟨a, b, h.below hb3 hlt, hc⟩)
        have HG3 := Lib.hid (show w.grownBy v2 (some g) from ⟨hb3.os.trans HG1.out.os, hb3.tape.trans HG1.out.tape, hb3.output.trans HG1.out.output, Nat.le_trans HG1.out.size hb3.size, fun k hk hne => (hb3.block k hk).trans (HG1.out.block k hk hne)⟩)
        have HL3 := Lib.hid (show (acc ++ [gvN zs at_]) ++ varsL zs (m - (j + 1)) (rN zs at_) = varsL zs m p from by
          rw [← HL.out, show m - j = (m - (j + 1)) + 1 by omega, varsL, if_neg HP1.out]; simp)
        have HP3 := Lib.hid (show varsP zs (m - (j + 1)) (rN zs at_) = varsP zs m p from by
          rw [← HP.out, show m - j = (m - (j + 1)) + 1 by omega, varsP])
        clear ho3 hg3 hb3 hw3
        go_wp2_with fail
        exact ⟨⟨j + 1, A3, n2 + 1, c3, _, _, by omega, by go_num, rfl, HO3.out, by omega, HL3, HP3, HS3.out, HG3.out⟩, by simp [intOf]; omega⟩
      · have HF := Lib.hid (show OwnI wr w.heap.size A2 n2 c2 (varsL zs m p) from by
          have e := HL.out; rw [varsL_neg, List.append_nil] at e; rw [← e]; exact HO.out)
        have HPF := Lib.hid (show SpR wr g A n c (varsP zs m p) from by
          have e := HP.out; rw [varsP_neg] at e; rw [← e]; exact HS.out)
        go_wp2_with fail
        go_ret
        exact ⟨A2, n2, c2, rfl, HF.out, HPF.out, HG.out⟩
    · obtain rfl : j = m := by omega
      have HF := Lib.hid (show OwnI wr w.heap.size A2 n2 c2 (varsL zs j p) from by
        have e := HL.out; rw [Nat.sub_self, varsL, List.append_nil] at e; rw [← e]; exact HO.out)
      have HPF := Lib.hid (show SpR wr g A n c (varsP zs j p) from by
        have e := HP.out; rw [Nat.sub_self, varsP] at e; rw [← e]; exact HS.out)
      go_wp2_with fail
      go_ret
      exact ⟨A2, n2, c2, rfl, HF.out, HPF.out, HG.out⟩
end Go.Proofs.Yteiojpglhmikoaa.Oq
