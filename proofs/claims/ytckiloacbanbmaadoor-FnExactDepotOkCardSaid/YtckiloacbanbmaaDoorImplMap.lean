/- The program's directory: a map from names to ids; accepts, apply, directoryOf. -/
import Derived.Test.YtckiloacbanbmaaDoorImplKept
import Derived.Maps.OwnOps
import Derived.Maps.OwnSet
import Derived.Maps.Views
import Derived.StringKeys
import Derived.Outline
namespace Go.Proofs.YtckiloacbanbmaaDoor.DOk
open Go.RowKit Go.Proofs.YtckiloacbanbmaaDoor.Bytes Go.Proofs.YtckiloacbanbmaaDoor.Rows_ Go.Maps Go.WideMaps
set_option linter.unusedVariables false

abbrev Dat := DataW Unit
theorem skey : Keyed Tryd.prog 9 := string_keyed Tryd.underlying9
theorem zeroI (w : World) : (zeroValue 3).run Tryd.prog w = .ok (.int .i64 0) w := by kernel_rfl
def kS (s : ByteArray) : Lit := .string s.data.toList
def vI (z : Int) : Dat := .lit (.int .i64 z)
def OwnM (w : World) (b n : Nat) (D : Dat) : Prop := w.ownsMap Tryd.prog 9 (plainElem Tryd.prog 3) b n D
theorem OwnM.lt {w : World} {b n : Nat} {D : Dat} (h : OwnM w b n D) : b < w.heap.size := World.ownsMap.lt h
theorem OwnM.alloc {w : World} {b n : Nat} {D : Dat} (h : OwnM w b n D) (o : Obj) : OwnM (w.alloc o) b n D := World.ownsMap.alloc h o
theorem OwnM.more {w : World} {b n n' : Nat} {D : Dat} (h : OwnM w b n D) (hn : n ≤ n') : OwnM w b n' D := World.ownsMap.mono h hn
theorem OwnM.below {w w' : World} {B b n : Nat} {D : Dat} (h : OwnM w b n D) (hb : Below B w w') (hB : w.heap.size ≤ B) : OwnM w' b n D := by
  have hlt := h.lt
  obtain ⟨es, clock, hg, F, hs, rfl⟩ := h
  exact ⟨es, clock, by rw [hb.block b (by omega)]; exact hg, F, hs, rfl⟩
theorem keyS {s : ByteArray} (h : s.size ≤ maxLen) : keyOf Tryd.prog 9 (.string s) = some (kS s) := keyOf_string_mk Tryd.underlying9 h

/-- what one turn makes of the directory -/
def applyD (D : Dat) (t : TurnD) : Dat :=
  if t.kind = 1 then D.put (kS t.name) (vI t.id)
  else if t.kind = 4 then (D.put (kS t.to_) (D.atKey (kS t.name) (vI 0))).del (kS t.name)
  else if t.kind = 5 then D.del (kS t.name) else D
def acceptsB (D : Dat) (t : TurnD) : Bool := if t.kind = 1 then !has D (kS t.name) else has D (kS t.name) && !(t.to_.toList == t.name.toList)

set_option maxRecDepth 100000 in
set_option maxHeartbeats 3200000 in
theorem apply_any (b m : Nat) (D : Dat) (kind : Int) (name to_ : ByteArray) (id : Int) (w : World) (ho : OwnM w b m D) (hm : m ≤ 1099511627776) (h1 : name.size ≤ maxLen) (h2 : to_.size ≤ maxLen) (hw : (Lit.int .i64 id).wf = true) :
    Calls Tryd.prog 58 #[.map (some b), .agg #[.int .i64 kind, .string name, .string to_, .int .i64 id]] w fun e w' => e = .returned (.tuple #[]) ∧ OwnM w' b (m + 1) (applyD D ⟨kind, name, to_, id⟩) ∧ w.grownBy w' (some b) := by
  have hk1 := Lib.hid (keyS h1)
  have hk2 := Lib.hid (keyS h2)
  have hv := Lib.hid (plainElem_int (H := Unit) Tryd.underlying3 hw)
  have hlt := ho.lt
  have hA := Lib.hid (World.grownBy_alloc w (.cells #[.int .i64 kind, .string name, .string to_, .int .i64 id] 63) (some b))
  have hoA := Lib.hid (ho.alloc (.cells #[.int .i64 kind, .string name, .string to_, .int .i64 id] 63))
  clear h1 h2 hw ho
  by_cases k1 : kind = 1
  · subst k1
    have hT := Lib.hid (show applyD D ⟨1, name, to_, id⟩ = D.put (kS name) (vI id) by simp [applyD])
    go_enter Tryd.func58, Tryd.ntmps58
    go_wp2_with (at_mapUpdate; refine wpList_mapUpdate_own _ rfl _ _ _ 91 rfl 9 3 skey Tryd.underlying91 _ b m _ rfl hoA.out (by unfold maxLen; omega) _ _ _ rfl rfl hk1.out _ [] hv.out ?_)
    intro w1 hown1 hgrow1
    have HO := Lib.hid (show OwnM w1 b (m + 1) (applyD D ⟨1, name, to_, id⟩) by rw [hT.out]; exact hown1)
    have HG := Lib.hid (grown_trans hA.out hgrow1)
    clear hown1 hgrow1
    go_wp2_with fail
    go_end0
    exact ⟨rfl, HO.out, HG.out⟩
  · have e1 : (kind == 1) = false := by simp; omega
    by_cases k4 : kind = 4
    · subst k4
      have hT := Lib.hid (show applyD D ⟨4, name, to_, id⟩ = (D.put (kS to_) (D.atKey (kS name) (vI 0))).del (kS name) by simp [applyD])
      clear k1 e1
      have hne : some w.heap.size ≠ some b := fun e => by injection e with e; omega
      go_enter Tryd.func58, Tryd.ntmps58
      go_wp2_with (at_lookup; refine wpList_lookup_own_int _ rfl _ _ 91 rfl 9 3 .i64 skey Tryd.underlying91 Tryd.underlying3 (zeroI _) b m D rfl hoA.out _ _ rfl hk1.out ?_)
      intro c hat hwc
      have hat' := Lib.hid hat
      have hvc := Lib.hid (plainElem_int (H := Unit) Tryd.underlying3 hwc)
      clear hat hwc
      go_wp2_with (at_mapUpdate; refine wpList_mapUpdate_own _ rfl _ _ _ 91 rfl 9 3 skey Tryd.underlying91 _ b m _ rfl hoA.out (by unfold maxLen; omega) _ _ _ rfl rfl hk2.out _ [] hvc.out ?_)
      intro w1 hown1 hgrow1
      have q1 : w1.cell? ⟨w.heap.size, 1, none⟩ = some (.string name) := hgrow1.cell (a := ⟨w.heap.size, 1, none⟩) (by rw [World.cell?_alloc_at _ _ _ _ rfl]; rfl) hne
      have q0 : w1.cell? ⟨w.heap.size, 0, none⟩ = some (.int .i64 4) := hgrow1.cell (a := ⟨w.heap.size, 0, none⟩) (by rw [World.cell?_alloc_at _ _ _ _ rfl]; rfl) hne
      have HG1 := Lib.hid (grown_trans hA.out hgrow1)
      have HO1 := Lib.hid hown1
      clear hown1 hgrow1 hne
      go_wp2_with (at_delete; refine wpList_delete_own _ rfl _ _ 91 9 rfl 3 skey Tryd.underlying91 _ b _ _ rfl HO1.out _ _ rfl hk1.out ?_)
      intro w2 hown2 hturn2
      have HO := Lib.hid (show OwnM w2 b (m + 1) (applyD D ⟨4, name, to_, id⟩) by rw [hT.out, vI, hat'.out]; exact hown2)
      have HG := Lib.hid (grown_trans HG1.out hturn2.grown)
      clear hown2 hturn2
      go_wp2_with fail
      go_end0
      exact ⟨rfl, HO.out, HG.out⟩
    · have e4 : (kind == 4) = false := by simp; omega
      by_cases k5 : kind = 5
      · subst k5
        have hT := Lib.hid (show applyD D ⟨5, name, to_, id⟩ = D.del (kS name) by simp [applyD])
        clear k1 e1 k4 e4
        go_enter Tryd.func58, Tryd.ntmps58
        go_wp2_with (at_delete; refine wpList_delete_own _ rfl _ _ 91 9 rfl 3 skey Tryd.underlying91 _ b _ _ rfl hoA.out _ _ rfl hk1.out ?_)
        intro w2 hown2 hturn2
        have HO := Lib.hid (show OwnM w2 b (m + 1) (applyD D ⟨5, name, to_, id⟩) by rw [hT.out]; exact OwnM.more hown2 (by omega))
        have HG := Lib.hid (grown_trans hA.out hturn2.grown)
        clear hown2 hturn2
        go_wp2_with fail
        go_end0
        exact ⟨rfl, HO.out, HG.out⟩
      · have e5 : (kind == 5) = false := by simp; omega
        have hT := Lib.hid (show applyD D ⟨kind, name, to_, id⟩ = D by simp [applyD, k1, k4, k5])
        clear k1 k4 k5
        go_enter Tryd.func58, Tryd.ntmps58
        go_wp2_with fail
        go_end0
        exact ⟨rfl, by rw [hT.out]; exact hoA.out.more (by omega), hA.out⟩

set_option maxRecDepth 100000 in
set_option maxHeartbeats 3200000 in
theorem accepts_any (b m : Nat) (D : Dat) (kind : Int) (name to_ : ByteArray) (id : Int) (w : World) (ho : OwnM w b m D) (h1 : name.size ≤ maxLen) :
    Calls Tryd.prog 57 #[.map (some b), .agg #[.int .i64 kind, .string name, .string to_, .int .i64 id]] w fun e w' => e = .returned (.bool (acceptsB D ⟨kind, name, to_, id⟩)) ∧ Below w.heap.size w w' := by
  have hk1 := Lib.hid (keyS h1)
  have hoA := Lib.hid (ho.alloc (.cells #[.int .i64 kind, .string name, .string to_, .int .i64 id] 63))
  have hb0 := Lib.hid ((Below.refl w.heap.size w).alloc (Nat.le_refl _) (.cells #[.int .i64 kind, .string name, .string to_, .int .i64 id] 63))
  clear h1 ho
  unfold acceptsB
  simp only
  generalize hh : has D (kS name) = h at *
  have HH := Lib.hid hh
  clear hh
  by_cases k1 : kind = 1
  · subst k1
    rw [if_pos rfl]
    go_enter Tryd.func57, Tryd.ntmps57
    go_wp2_with (at_lookup; refine wpList_lookup_own_ok_int _ rfl _ _ 91 rfl 9 3 .i64 skey Tryd.underlying91 Tryd.underlying3 (zeroI _) b m D rfl hoA.out _ _ rfl hk1.out ?_)
    intro c hat hwc
    rw [HH.out]
    clear hat hwc
    go_wp2_with fail
    go_ret
    exact ⟨rfl, hb0.out⟩
  · rw [if_neg k1]
    have e1 : (kind == 1) = false := by simp; omega
    clear k1
    cases heq : (to_.toList == name.toList)
    all_goals
      have hne : (!(to_.toList == name.toList)) = !(to_.toList == name.toList) := rfl
      rw [heq] at hne
      go_enter Tryd.func57, Tryd.ntmps57
      go_wp2_with (at_lookup; refine wpList_lookup_own_ok_int _ rfl _ _ 91 rfl 9 3 .i64 skey Tryd.underlying91 Tryd.underlying3 (zeroI _) b m D rfl hoA.out _ _ rfl hk1.out ?_)
      intro c hat hwc
      rw [HH.out]
      clear hat hwc HH
      cases h
      all_goals
        go_wp2_with fail
        go_ret
        exact ⟨rfl, hb0.out⟩
end Go.Proofs.YtckiloacbanbmaaDoor.DOk
