/- The model's helper that makes one turn. -/
import Derived.Test.YtckiloacbanbmaaDoorTurnS
namespace Go.Proofs.YtckiloacbanbmaaDoor.DOk
open Go.RowKit Go.Proofs.YtckiloacbanbmaaDoor.Bytes Go.Proofs.YtckiloacbanbmaaDoor.Rows_
set_option linter.unusedVariables false

def turnD (ks : List LinkD) (t : TurnD) : List LinkD :=
  if t.kind = 1 then withD ks t.name t.id
  else if t.kind = 4 then withD (lessD (lessD ks t.name.toList) t.to_.toList) t.to_ (findD ks t.name.toList) else lessD ks t.name.toList
theorem turnD_le (ks : List LinkD) (t : TurnD) : (turnD ks t).length ≤ ks.length + 1 := by
  unfold turnD
  split
  · rw [withD_len]; exact Nat.le_refl _
  · split
    · rw [withD_len]; have := lessD_le (lessD ks t.name.toList) t.to_.toList; have := lessD_le ks t.name.toList; omega
    · have := lessD_le ks t.name.toList; omega
theorem OwnL.rdB {w w' : World} {base B : Nat} {A : Option Addr} {n c : Nat} {ks : List LinkD} (h : OwnL w base A n c ks) (hb : Below w.heap.size w w') : RdL w' w'.heap.size A ks :=
  (h.rd.below (Nat.le_refl _) hb).more hb.size

set_option maxRecDepth 100000 in
set_option maxHeartbeats 3200000 in
theorem l02Turn_any (A : Option Addr) (n c : Nat) (ks : List LinkD) (kind : Int) (name to_ : ByteArray) (id : Int) (w : World) (hr : RdL w w.heap.size A ks) (hl : ks.length = n) (hn : n ≤ 1000000) :
    Calls Tryd.prog 26 #[.slice A n c, .agg #[.int .i64 kind, .string name, .string to_, .int .i64 id]] w fun e w' => ∃ A' c', e = .returned (.slice A' (turnD ks ⟨kind, name, to_, id⟩).length c') ∧ OwnL w' w.heap.size A' (turnD ks ⟨kind, name, to_, id⟩).length c' (turnD ks ⟨kind, name, to_, id⟩) ∧ Below w.heap.size w w' := by
  have hb0 := Lib.hid ((Below.refl w.heap.size w).alloc (Nat.le_refl _) (.cells #[.int .i64 kind, .string name, .string to_, .int .i64 id] 63))
  have HR := Lib.hid hr
  have HL := Lib.hid hl
  by_cases k1 : kind = 1
  · subst k1
    have hT : turnD ks ⟨1, name, to_, id⟩ = withD ks name id := by simp [turnD]
    have hlen := withD_len ks name id
    rw [hl] at hlen
    rw [hT, hlen]
    have hW := Lib.hid (fun W (h : RdL W W.heap.size A ks) => l02With_any A n c ks name id W h hl (by omega))
    clear hl hr hT hlen
    go_enter Tryd.func26, Tryd.ntmps26
    go_wp2_with fail
    refine (hW.out _ ((HR.out.below (Nat.le_refl _) hb0.out).more (by simp))).mono ?_
    rintro e v1 ⟨A1, c1, rfl, ho1, hb1⟩
    have HO := Lib.hid (ho1.more (base' := w.heap.size) (by simp))
    have HB := Lib.hid (hb0.out.trans (hb1.mono (by simp)))
    clear ho1 hb1
    go_wp2_with fail
    go_ret
    exact ⟨_, _, rfl, HO.out, HB.out⟩
  · have e1 : (kind == 1) = false := by simp; omega
    have hF := Lib.hid (fun W (h : RdL W W.heap.size A ks) => l02Find_any A n c ks name W h hl (by omega))
    have hS := Lib.hid (fun W (h : RdL W W.heap.size A ks) => l02Less_any A n c ks name W h hl (by omega))
    by_cases k4 : kind = 4
    · subst k4
      have hT : turnD ks ⟨4, name, to_, id⟩ = withD (lessD (lessD ks name.toList) to_.toList) to_ (findD ks name.toList) := by simp [turnD]
      rw [hT]
      have hle : (lessD ks name.toList).length ≤ n := by rw [← hl]; exact lessD_le _ _
      have hle2 : (lessD (lessD ks name.toList) to_.toList).length ≤ (lessD ks name.toList).length := lessD_le _ _
      have hlen := Lib.hid (withD_len (lessD (lessD ks name.toList) to_.toList) to_ (findD ks name.toList))
      generalize findD ks name.toList = f at *
      have hS2 := Lib.hid (fun W A' c' (h : RdL W W.heap.size A' (lessD ks name.toList)) => l02Less_any A' (lessD ks name.toList).length c' (lessD ks name.toList) to_ W h rfl (by omega))
      have hW := Lib.hid (fun W A' c' (h : RdL W W.heap.size A' (lessD (lessD ks name.toList) to_.toList)) => l02With_any A' (lessD (lessD ks name.toList) to_.toList).length c' (lessD (lessD ks name.toList) to_.toList) to_ f W h rfl (by omega))
      generalize lessD ks name.toList = L1 at *
      generalize hL2 : lessD L1 to_.toList = L2 at *
      clear hl hr hT k1 hL2
      go_enter Tryd.func26, Tryd.ntmps26
      go_wp2_with fail
      refine (hF.out _ ((HR.out.below (Nat.le_refl _) hb0.out).more (by simp))).mono ?_
      rintro e v1 ⟨rfl, hb1⟩
      obtain ⟨hc1, _⟩ := bcell hb1
      have hz1 : w.heap.size < v1.heap.size := by have := hb1.size; simp at this; omega
      have q1 : v1.cell? ⟨w.heap.size, 1, none⟩ = some (.string name) := by rw [hc1 _ _ (by simp), World.cell?_alloc_at _ _ _ _ rfl]; rfl
      have q0 : v1.cell? ⟨w.heap.size, 0, none⟩ = some (.int .i64 4) := by rw [hc1 _ _ (by simp), World.cell?_alloc_at _ _ _ _ rfl]; rfl
      have q2 : v1.cell? ⟨w.heap.size, 2, none⟩ = some (.string to_) := by rw [hc1 _ _ (by simp), World.cell?_alloc_at _ _ _ _ rfl]; rfl
      have HB1 := Lib.hid (hb0.out.trans (hb1.mono (by simp)))
      clear hb1 hc1
      go_wp2_with fail
      refine (hS.out _ ((HR.out.below (Nat.le_refl _) HB1.out).more (by omega))).mono ?_
      rintro e v2 ⟨A2, c2, rfl, ho2, hb2⟩
      have p0 : v2.cell? ⟨w.heap.size, 0, none⟩ = some (.int .i64 4) := (hb2.cell (p := ⟨w.heap.size, 0, none⟩) hz1).trans q0
      have p2 : v2.cell? ⟨w.heap.size, 2, none⟩ = some (.string to_) := (hb2.cell (p := ⟨w.heap.size, 2, none⟩) hz1).trans q2
      have HB2 := Lib.hid (HB1.out.trans (hb2.mono (by omega)))
      have HO2 := Lib.hid ho2.rd
      have hz2 : w.heap.size < v2.heap.size := by have := hb2.size; omega
      clear q0 q1 q2 ho2 hb2
      go_wp2_with fail
      go_region_with (first
        | (go_at_call 47; refine (hS2.out _ A2 c2 ?_).mono ?_; exact HO2.out; rintro e v3 ⟨A3, c3, rfl, ho3, hb3'⟩; have hb3 : Below v2.heap.size v2 v3 := undrew hb3'; clear hb3'; have HO3 := Lib.hid ho3.rd; have HB3 := Lib.hid (HB2.out.trans (hb3.mono (by omega))); have r2 : v3.cell? ⟨w.heap.size, 2, none⟩ = some (.string to_) := (hb3.cell (p := ⟨w.heap.size, 2, none⟩) hz2).trans p2; have hz3 : w.heap.size < v3.heap.size := (by have := hb3.size; omega); clear ho3 hb3)
        | (go_at_call 46; refine (hW.out _ _ _ ?_).mono ?_; exact HO3.out; rintro e v4 ⟨A4, c4, rfl, ho4, hb4⟩))
      all_goals
        have HO4 := Lib.hid (ho4.more (base' := w.heap.size) (by omega))
        have HB4 := Lib.hid (HB3.out.trans (hb4.mono (by omega)))
        clear ho4 hb4
        go_wp2_with fail
        go_ret
        exact ⟨_, _, Eq.trans rfl (congrArg (fun m => Ending.returned (Value.slice A4 m c4)) hlen.out.symm), by rw [hlen.out]; exact HO4.out, HB4.out⟩
    · have e4 : (kind == 4) = false := by simp; omega
      have hT : turnD ks ⟨kind, name, to_, id⟩ = lessD ks name.toList := by simp [turnD, k1, k4]
      rw [hT]
      have hle : (lessD ks name.toList).length ≤ n := by rw [← hl]; exact lessD_le _ _
      generalize findD ks name.toList = f at *
      generalize lessD ks name.toList = L1 at *
      clear hl hr hT k1 k4
      go_enter Tryd.func26, Tryd.ntmps26
      go_wp2_with fail
      refine (hF.out _ ((HR.out.below (Nat.le_refl _) hb0.out).more (by simp))).mono ?_
      rintro e v1 ⟨rfl, hb1⟩
      obtain ⟨hc1, _⟩ := bcell hb1
      have hz1 : w.heap.size < v1.heap.size := by have := hb1.size; simp at this; omega
      have q1 : v1.cell? ⟨w.heap.size, 1, none⟩ = some (.string name) := by rw [hc1 _ _ (by simp), World.cell?_alloc_at _ _ _ _ rfl]; rfl
      have q0 : v1.cell? ⟨w.heap.size, 0, none⟩ = some (.int .i64 kind) := by rw [hc1 _ _ (by simp), World.cell?_alloc_at _ _ _ _ rfl]; rfl
      have HB1 := Lib.hid (hb0.out.trans (hb1.mono (by simp)))
      clear hb1 hc1
      go_wp2_with fail
      refine (hS.out _ ((HR.out.below (Nat.le_refl _) HB1.out).more (by omega))).mono ?_
      rintro e v2 ⟨A2, c2, rfl, ho2, hb2⟩
      have p0 : v2.cell? ⟨w.heap.size, 0, none⟩ = some (.int .i64 kind) := (hb2.cell (p := ⟨w.heap.size, 0, none⟩) hz1).trans q0
      have HB2 := Lib.hid (HB1.out.trans (hb2.mono (by omega)))
      have HO2 := Lib.hid (ho2.more (base' := w.heap.size) (by omega))
      clear q0 q1 ho2 hb2
      go_wp2_with fail
      go_ret
      exact ⟨_, _, rfl, HO2.out, HB2.out⟩
end Go.Proofs.YtckiloacbanbmaaDoor.DOk
