/- The model's OpRead, at every list of bytes. -/
import Derived.Test.YteiojpglhmikoaaOqT
import Derived.Test.YteiojpglhmikoaaOqQ
import Derived.Test.YteiojpglhmikoaaOqX
import Derived.Lib.ConvBytes
import Derived.Lib.SmallJoins
import Derived.BigRegion
import Derived.RegionTactic
import Derived.ChangeAlike
import Derived.Deep.Cut
import Derived.Deep.CutRange
namespace Go.Proofs.Yteiojpglhmikoaa.Oq
open Go.RowKit Go.Proofs.Yteiojpglhmikoaa.Bytes Go.Proofs.Yteiojpglhmikoaa.OpOk Go.Proofs.Yteiojpglhmikoaa.Opq Go.Proofs.Yteiojpglhmikoaa.Var Go.Proofs.Yteiojpglhmikoaa.Made Go.Proofs.Yteiojpglhmikoaa.DOk
set_option linter.unusedVariables false
set_option linter.unusedSimpArgs false
attribute [local go_sem ↓] Go.wp_at_zero Go.wp_at_succ
attribute [local go_sem] Lib.bytesWorld_old Lib.bytesWorld_size
theorem q_neg {zs : List Int} (h : q8 zs ≠ -1) : q1 zs ≠ -1 ∧ q2 zs ≠ -1 ∧ q3 zs ≠ -1 ∧ q4 zs ≠ -1 ∧ q5 zs ≠ -1 ∧ q6 zs ≠ -1 ∧ q7 zs ≠ -1 := by
  have h7 : q7 zs ≠ -1 := fun e => h (by unfold q8; rw [e, rT_neg])
  have h6 : q6 zs ≠ -1 := fun e => h7 (by unfold q7; rw [e, rT_neg])
  have h5 : q5 zs ≠ -1 := fun e => h6 (by unfold q6; rw [e, rT_neg])
  have h4 : q4 zs ≠ -1 := fun e => h5 (by unfold q5; rw [e, rT_neg])
  have h3 : q3 zs ≠ -1 := fun e => h4 (by unfold q4; rw [e, rN_neg])
  have h2 : q2 zs ≠ -1 := fun e => h3 (by unfold q3; rw [e, rN_neg])
  have h1 : q1 zs ≠ -1 := fun e => h2 (by unfold q2; rw [e, rN_neg])
  exact ⟨h1, h2, h3, h4, h5, h6, h7⟩
theorem vars4 {zs : List Int} (h : q8 zs ≠ -1) : varsL zs 4 0 = [gvN zs 0, gvN zs (q1 zs), gvN zs (q2 zs), gvN zs (q3 zs)] := by
  obtain ⟨h1, h2, h3, _⟩ := q_neg h
  show (if (0 : Int) = -1 then [] else gvN zs 0 :: (if q1 zs = -1 then [] else gvN zs (q1 zs) :: (if q2 zs = -1 then [] else gvN zs (q2 zs) :: (if q3 zs = -1 then [] else gvN zs (q3 zs) :: [])))) = _
  rw [if_neg (by decide), if_neg h1, if_neg h2, if_neg h3]
/-- behind a defect nothing is answered -/
theorem rdB_neg {zs : List Int} (h : q8 zs = -1) : rdB zs = false := by
  rcases hb : rdB zs with _ | _
  · rfl
  · exfalso
    unfold rdB at hb
    rw [Bool.and_eq_true] at hb
    obtain ⟨h1, h2⟩ := hb
    unfold eqB at h2
    have h3 := of_decide_eq_true h2
    obtain ⟨a1, a2, a3, a4, a5, a6, a7, a8⟩ := opOK_bd h1
    have := q8_opE (k := gvN zs 0) (a := gvN zs (q1 zs)) (b := gvN zs (q2 zs)) (d := gvN zs (q3 zs)) (nm := gtS zs (q4 zs)) (tx := gtS zs (q5 zs)) (dr := gtS zs (q6 zs)) (ds := byt (gtS zs (q7 zs))) (by omega) (by omega) (by omega) (by omega) (by omega) (by omega) (by omega) (by omega) (byt_rng _)
    unfold rvE at h3
    rw [h3] at this
    exact this h
/-- what holds of the model's answer: its data can be read, and lies in a block that the call has made -/
def RdSp (w : World) (zs : List Int) (e : Ending) (w' : World) : Prop := ∃ A' n' c', e = .returned (.tuple #[ansV zs A' n' c', .bool (rdB zs)]) ∧ Rd w' w'.heap.size A' (ansS zs) ∧ (ansS zs).length = n' ∧ (∀ ad, A' = some ad → w.heap.size ≤ ad.block ∧ ad.block < w'.heap.size) ∧ Below w.heap.size w w'
theorem RdSp.no {w w' : World} {zs : List Int} (h : rdB zs = false) (hb : Below w.heap.size w w') : RdSp w zs (.returned (.tuple #[opV 0 0 0 0 ByteArray.empty ByteArray.empty ByteArray.empty none 0 0, .bool false])) w' :=
  ⟨none, 0, 0, by unfold ansV; rw [h]; rfl, by unfold ansS; rw [h]; exact (own_nil w' 0).rd, by unfold ansS; rw [h]; rfl, fun ad e => (by cases e), hb⟩
theorem RdSp.yes {w w' : World} {zs : List Int} {g n c : Nat} (h : rdB zs = true) (hr : Rd w' w'.heap.size (some ⟨g, 0, none⟩) (byt (gtS zs (q7 zs)))) (hl : (byt (gtS zs (q7 zs))).length = n) (hg : w.heap.size ≤ g) (hg2 : g < w'.heap.size) (hb : Below w.heap.size w w') : RdSp w zs (.returned (.tuple #[rdV zs (some ⟨g, 0, none⟩) n c, .bool true])) w' :=
  ⟨some ⟨g, 0, none⟩, n, c, by unfold ansV; rw [h]; rfl, by unfold ansS; rw [h]; exact hr, by unfold ansS; rw [h]; exact hl, fun ad e => by cases e; exact ⟨hg, hg2⟩, hb⟩
theorem conv_rd (w : World) (s : ByteArray) : Rd (Lib.bytesWorld w 5 s) (w.heap.size + 1) (some ⟨w.heap.size, 0, none⟩) (byt s) := by
  intro hn
  refine ⟨w.heap.size, 0, rfl, Nat.lt_succ_self _, fun k hk => ?_⟩
  rw [Nat.zero_add, Lib.bytesWorld_cell w 5 s k (by rw [byt_len] at hk; exact hk)]
  have hk1 : k < s.data.toList.length := by rw [byt_len] at hk; simpa using hk
  have hk2 : k < s.data.size := by simpa using hk1
  have e1 : s.data.toList.getD k 0 = s.data.toList[k] := by
    rw [List.getD, List.getElem?_eq_getElem hk1]; rfl
  have e2 : (byt s).getD k 0 = ((s.data.toList[k]).toNat : Int) := by
    rw [List.getD, byt, List.getElem?_map, List.getElem?_eq_getElem hk1]; rfl
  rw [e1, e2]
theorem bytes_row {w : World} {b : Nat} {C : Array Value} (s : ByteArray) (h : RowB w b C) : RowB (Lib.bytesWorld w 5 s) b C := h.below (Go.Joins.below_bytesWorld w.heap.size w 5 s (Nat.le_refl _)) h.lt
theorem bytes_free (w : World) (s : ByteArray) (a : Addr) (ha : a.block < w.heap.size) : (Lib.bytesWorld w 5 s).frozen? a = w.frozen? a := by
  simp [World.frozen?, Lib.bytesWorld_at_old w 5 s a.block ha]
theorem ints4 {w : World} {base : Nat} {A : Option Addr} {n c : Nat} {x0 x1 x2 x3 : Int} (h : OwnI w base A n c [x0, x1, x2, x3]) :
    n = 4 ∧ ∃ g, A = some ⟨g, 0, none⟩ ∧ g < w.heap.size ∧ w.cell? ⟨g, 0, none⟩ = some (.int .i64 x0) ∧ w.cell? ⟨g, 1, none⟩ = some (.int .i64 x1) ∧ w.cell? ⟨g, 2, none⟩ = some (.int .i64 x2) ∧ w.cell? ⟨g, 3, none⟩ = some (.int .i64 x3) := by
  have hl := h.len
  refine ⟨by simpa using hl.symm, ?_⟩
  have h2 := h.2
  rcases h2 with ⟨_, hz⟩ | ⟨g, cap, cur, hv, hb, hg, hnc, hm, hs, ht⟩
  · rw [hz] at hl; simp at hl
  · injection hv with e1 e2 e3
    subst e1 e3
    have hn : n = 4 := by simpa using hl.symm
    refine ⟨g, rfl, (Array.getElem?_eq_some_iff.1 hg).1, ?_, ?_, ?_, ?_⟩
    · rw [World.ownsRow.cellAt (h := h) 0 (by omega)]; rfl
    · rw [World.ownsRow.cellAt (h := h) 1 (by omega)]; rfl
    · rw [World.ownsRow.cellAt (h := h) 2 (by omega)]; rfl
    · rw [World.ownsRow.cellAt (h := h) 3 (by omega)]; rfl
attribute [local go_sem] bytes_free
/-- behind the laying of the operation that was read: its box, and what its data reads as -/
def LayQ (zs : List Int) (V : World) (s : Value) (wx : World) : Prop := ∃ b g cp, s = .pointer (some ⟨b, 0, none⟩) ∧ V.heap.size ≤ b ∧ V.heap.size ≤ g ∧ g < wx.heap.size ∧ RowB wx b #[.int .i64 (gvN zs 0), .int .i64 (gvN zs (q1 zs)), .int .i64 (gvN zs (q2 zs)), .int .i64 (gvN zs (q3 zs)), .string (gtS zs (q4 zs)), .string (gtS zs (q5 zs)), .string (gtS zs (q6 zs)), .slice (some ⟨g, 0, none⟩) (byt (gtS zs (q7 zs))).length cp] ∧ Rd wx wx.heap.size (some ⟨g, 0, none⟩) (byt (gtS zs (q7 zs))) ∧ Below V.heap.size V wx
theorem rd_set {w : World} {B g : Nat} {zs : List Int} (h : Rd w B (some ⟨g, 0, none⟩) zs) (b i : Nat) (v : Value) (hne : b ≠ g) : Rd (w.setCell ⟨b, i, none⟩ v) B (some ⟨g, 0, none⟩) zs := by
  intro hn
  obtain ⟨b', o, e, hlt, hc⟩ := h hn
  refine ⟨b', o, e, hlt, fun k hk => ?_⟩
  injection e with e
  injection e with e1 e2
  rw [World.cell?_setCell_other w ⟨b, i, none⟩ ⟨b', o + k, none⟩ v (by intro e'; injection e' with e3; omega)]
  exact hc k hk
theorem set8 {w : World} {b : Nat} {z0 z1 z2 z3 z4 z5 z6 z7 x0 x1 x2 x3 x4 x5 x6 x7 : Value} (h : RowB w b #[z0, z1, z2, z3, z4, z5, z6, z7]) :
    RowB ((((((((w.setCell ⟨b, 0, none⟩ x0).setCell ⟨b, 1, none⟩ x1).setCell ⟨b, 2, none⟩ x2).setCell ⟨b, 3, none⟩ x3).setCell ⟨b, 4, none⟩ x4).setCell ⟨b, 5, none⟩ x5).setCell ⟨b, 6, none⟩ x6).setCell ⟨b, 7, none⟩ x7) b #[x0, x1, x2, x3, x4, x5, x6, x7] := by
  have h0 : RowB (w.setCell ⟨b, 0, none⟩ x0) b #[x0, z1, z2, z3, z4, z5, z6, z7] := h.set
  have h1 : RowB ((w.setCell ⟨b, 0, none⟩ x0).setCell ⟨b, 1, none⟩ x1) b #[x0, x1, z2, z3, z4, z5, z6, z7] := h0.set
  have h2 : RowB (((w.setCell ⟨b, 0, none⟩ x0).setCell ⟨b, 1, none⟩ x1).setCell ⟨b, 2, none⟩ x2) b #[x0, x1, x2, z3, z4, z5, z6, z7] := h1.set
  have h3 : RowB ((((w.setCell ⟨b, 0, none⟩ x0).setCell ⟨b, 1, none⟩ x1).setCell ⟨b, 2, none⟩ x2).setCell ⟨b, 3, none⟩ x3) b #[x0, x1, x2, x3, z4, z5, z6, z7] := h2.set
  have h4 : RowB (((((w.setCell ⟨b, 0, none⟩ x0).setCell ⟨b, 1, none⟩ x1).setCell ⟨b, 2, none⟩ x2).setCell ⟨b, 3, none⟩ x3).setCell ⟨b, 4, none⟩ x4) b #[x0, x1, x2, x3, x4, z5, z6, z7] := h3.set
  have h5 : RowB ((((((w.setCell ⟨b, 0, none⟩ x0).setCell ⟨b, 1, none⟩ x1).setCell ⟨b, 2, none⟩ x2).setCell ⟨b, 3, none⟩ x3).setCell ⟨b, 4, none⟩ x4).setCell ⟨b, 5, none⟩ x5) b #[x0, x1, x2, x3, x4, x5, z6, z7] := h4.set
  have h6 : RowB (((((((w.setCell ⟨b, 0, none⟩ x0).setCell ⟨b, 1, none⟩ x1).setCell ⟨b, 2, none⟩ x2).setCell ⟨b, 3, none⟩ x3).setCell ⟨b, 4, none⟩ x4).setCell ⟨b, 5, none⟩ x5).setCell ⟨b, 6, none⟩ x6) b #[x0, x1, x2, x3, x4, x5, x6, z7] := h5.set
  exact h6.set
theorem layQ_a (zs : List Int) (V : World) (cp : Nat) : LayQ zs V (.pointer (some ⟨V.heap.size + 1, 0, none⟩)) ((Lib.bytesWorld V.drew 5 (gtS zs (q7 zs))).alloc (.cells #[.int .i64 (gvN zs 0), .int .i64 (gvN zs (q1 zs)), .int .i64 (gvN zs (q2 zs)), .int .i64 (gvN zs (q3 zs)), .string (gtS zs (q4 zs)), .string (gtS zs (q5 zs)), .string (gtS zs (q6 zs)), .slice (some ⟨V.heap.size, 0, none⟩) (gtS zs (q7 zs)).size cp] 58)) := by
  have hs : (Lib.bytesWorld V.drew 5 (gtS zs (q7 zs))).heap.size = V.heap.size + 1 := Lib.bytesWorld_size V.drew _ _
  refine ⟨V.heap.size + 1, V.heap.size, cp, rfl, by omega, Nat.le_refl _, by simp [hs]; omega, ?_, ?_, ?_⟩
  · have h := RowB.new (Lib.bytesWorld V.drew 5 (gtS zs (q7 zs))) #[.int .i64 (gvN zs 0), .int .i64 (gvN zs (q1 zs)), .int .i64 (gvN zs (q2 zs)), .int .i64 (gvN zs (q3 zs)), .string (gtS zs (q4 zs)), .string (gtS zs (q5 zs)), .string (gtS zs (q6 zs)), .slice (some ⟨V.heap.size, 0, none⟩) (gtS zs (q7 zs)).size cp] 58
    rw [hs] at h
    rw [byt_len]; exact h
  · have h : Rd (Lib.bytesWorld V.drew 5 (gtS zs (q7 zs))) (V.heap.size + 1) (some ⟨V.heap.size, 0, none⟩) (byt (gtS zs (q7 zs))) := conv_rd V.drew (gtS zs (q7 zs))
    exact (h.below (B' := V.heap.size + 1) (Nat.le_refl _) ((Below.refl _ _).alloc (by rw [hs]; exact Nat.le_refl _) _)).more (by simp [hs])
  · exact (undrewO (Go.Joins.below_bytesWorld V.heap.size V.drew 5 (gtS zs (q7 zs)) (Nat.le_refl _))).alloc (by rw [hs]; omega) _
theorem layQ_b (zs : List Int) (V : World) (cp : Nat) (z0 z1 z2 z3 z4 z5 z6 z7 : Value) : LayQ zs V (.pointer (some ⟨V.heap.size, 0, none⟩)) ((((((((((Lib.bytesWorld (V.alloc (.cells #[z0, z1, z2, z3, z4, z5, z6, z7] 58)).drew 5 (gtS zs (q7 zs))).setCell ⟨V.heap.size, 0, none⟩ (.int .i64 (gvN zs 0))).setCell ⟨V.heap.size, 1, none⟩ (.int .i64 (gvN zs (q1 zs)))).setCell ⟨V.heap.size, 2, none⟩ (.int .i64 (gvN zs (q2 zs)))).setCell ⟨V.heap.size, 3, none⟩ (.int .i64 (gvN zs (q3 zs)))).setCell ⟨V.heap.size, 4, none⟩ (.string (gtS zs (q4 zs)))).setCell ⟨V.heap.size, 5, none⟩ (.string (gtS zs (q5 zs)))).setCell ⟨V.heap.size, 6, none⟩ (.string (gtS zs (q6 zs)))).setCell ⟨V.heap.size, 7, none⟩ (.slice (some ⟨V.heap.size + 1, 0, none⟩) (gtS zs (q7 zs)).size cp))) := by
  have hs : (Lib.bytesWorld (V.alloc (.cells #[z0, z1, z2, z3, z4, z5, z6, z7] 58)).drew 5 (gtS zs (q7 zs))).heap.size = V.heap.size + 1 + 1 := by
    rw [Lib.bytesWorld_size]; simp
  have hrow : RowB (Lib.bytesWorld (V.alloc (.cells #[z0, z1, z2, z3, z4, z5, z6, z7] 58)).drew 5 (gtS zs (q7 zs))) V.heap.size #[z0, z1, z2, z3, z4, z5, z6, z7] := bytes_row (gtS zs (q7 zs)) (RowB.new V #[z0, z1, z2, z3, z4, z5, z6, z7] 58).drew
  have hrd : Rd (Lib.bytesWorld (V.alloc (.cells #[z0, z1, z2, z3, z4, z5, z6, z7] 58)).drew 5 (gtS zs (q7 zs))) (V.heap.size + 1 + 1) (some ⟨V.heap.size + 1, 0, none⟩) (byt (gtS zs (q7 zs))) := by
    have h := conv_rd (V.alloc (.cells #[z0, z1, z2, z3, z4, z5, z6, z7] 58)).drew (gtS zs (q7 zs))
    have e : (V.alloc (.cells #[z0, z1, z2, z3, z4, z5, z6, z7] 58)).drew.heap.size = V.heap.size + 1 := by simp
    rw [e] at h; exact h
  have hb : Below V.heap.size V (Lib.bytesWorld (V.alloc (.cells #[z0, z1, z2, z3, z4, z5, z6, z7] 58)).drew 5 (gtS zs (q7 zs))) :=
    ((Below.refl V.heap.size V).alloc (Nat.le_refl _) (.cells #[z0, z1, z2, z3, z4, z5, z6, z7] 58)).trans (undrewO (Go.Joins.below_bytesWorld V.heap.size (V.alloc (.cells #[z0, z1, z2, z3, z4, z5, z6, z7] 58)).drew 5 (gtS zs (q7 zs)) (by simp)))
  refine ⟨V.heap.size, V.heap.size + 1, cp, rfl, Nat.le_refl _, by omega, by simp [hs], ?_, ?_, Below.setEight hb⟩
  · rw [byt_len]; exact set8 hrow
  · have ne : V.heap.size ≠ V.heap.size + 1 := by omega
    exact (rd_set (rd_set (rd_set (rd_set (rd_set (rd_set (rd_set (rd_set hrd _ 0 _ ne) _ 1 _ ne) _ 2 _ ne) _ 3 _ ne) _ 4 _ ne) _ 5 _ ne) _ 6 _ ne) _ 7 _ ne).more (by simp [hs])
set_option maxRecDepth 100000 in
set_option maxHeartbeats 3200000 in
theorem spec_OpRead_any (A : Option Addr) (n c : Nat) (zs : List Int) (w : World) (hr : Rd w w.heap.size A zs) (hg : Rng zs) (hl : zs.length = n) (hn : n ≤ 1099511627776) (hnc : n ≤ c) (hA : A = none → n = 0 ∧ c = 0) :
    Calls Try.prog 42 #[.slice A n c] w (RdSp w zs) := by
  have HV := Lib.hid (fun W (h1 : SpR W (w.heap.size + 1) A n c 0) (h2 : Rd W w.heap.size A zs) => l12Vars_any A n c (w.heap.size + 1) w.heap.size 4 zs 0 W h1 h2 (Nat.le_succ _) hg hl hn hnc (by omega))
  have HT := Lib.hid (fun (p : Int) W (h1 : SpR W (w.heap.size + 1) A n c p) (h2 : Rd W w.heap.size A zs) => l15Text_any A n c (w.heap.size + 1) w.heap.size zs p W h1 h2 (Nat.le_succ _) hg hl hn hnc)
  have HOB := Lib.hid (fun (A' : Option Addr) (c' : Nat) W (hq : Rd W W.heap.size A' (byt (gtS zs (q7 zs)))) (hA : A' = none → (byt (gtS zs (q7 zs))).length = 0 ∧ c' = 0) => spec_OpBytes_any (gvN zs 0) (gvN zs (q1 zs)) (gvN zs (q2 zs)) (gvN zs (q3 zs)) (gtS zs (q4 zs)) (gtS zs (q5 zs)) (gtS zs (q6 zs)) A' (byt (gtS zs (q7 zs))).length c' (byt (gtS zs (q7 zs))) W (by have := gtS_size zs (q4 zs); unfold maxLen; omega) (by have := gtS_size zs (q5 zs); unfold maxLen; omega) (by have := gtS_size zs (q6 zs); unfold maxLen; omega) (by have := gtS_size zs (q7 zs); rw [byt_len]; omega) hq rfl hA (byt_rng _))
  have HR := Lib.hid hr
  have HG := Lib.hid hg
  have HL := Lib.hid hl
  have HA := Lib.hid hA
  clear hr hg hl hA
  have HB0 := Lib.hid (((Below.refl w.heap.size w).alloc (Nat.le_refl _) (.cells #[.int .i64 0, .int .i64 0, .int .i64 0, .int .i64 0, .string ByteArray.empty, .string ByteArray.empty, .string ByteArray.empty, .slice none 0 0] 58)).alloc (by simp) (.cells #[.slice A n c, .int .i64 0, .bool false] 116))
  have RO0 := Lib.hid ((RowB.new w #[.int .i64 0, .int .i64 0, .int .i64 0, .int .i64 0, .string ByteArray.empty, .string ByteArray.empty, .string ByteArray.empty, .slice none 0 0] 58).alloc (.cells #[.slice A n c, .int .i64 0, .bool false] 116))
  have RR0 := Lib.hid (show SpR ((w.alloc (.cells #[.int .i64 0, .int .i64 0, .int .i64 0, .int .i64 0, .string ByteArray.empty, .string ByteArray.empty, .string ByteArray.empty, .slice none 0 0] 58)).alloc (.cells #[.slice A n c, .int .i64 0, .bool false] 116)) (w.heap.size + 1) A n c 0 from by
    have h := RowB.new (w.alloc (.cells #[.int .i64 0, .int .i64 0, .int .i64 0, .int .i64 0, .string ByteArray.empty, .string ByteArray.empty, .string ByteArray.empty, .slice none 0 0] 58)) #[.slice A n c, .int .i64 0, .bool false] 116
    rw [World.size_alloc] at h; exact ⟨0, false, h, .inl ⟨rfl, rfl, by decide⟩⟩)
  go_enter Try.func42, Try.ntmps42
  go_wp2_with fail
  refine (HV.out _ RR0.out (HR.out.below (Nat.le_refl _) HB0.out)).mono ?_
  rintro e v1 ⟨A1, n1, c1, rfl, ho1, hs1, hg1⟩
  have HO1 := Lib.hid (show OwnI v1 (w.heap.size + 1 + 1) A1 n1 c1 (varsL zs 4 0) from by simpa using ho1)
  have RR1 := Lib.hid (show SpR v1 (w.heap.size + 1) A n c (q4 zs) from hs1)
  have hz1 : w.heap.size + 1 + 1 ≤ v1.heap.size := by have := hg1.size; simpa using this
  have HB1 := Lib.hid (HB0.out.trans (grownO_below hg1 (Nat.le_succ _) (by simp; omega)))
  have RO1 := Lib.hid (RO0.out.below (grownO_below hg1 (Nat.le_refl (w.heap.size + 1)) (by simp)) (Nat.lt_succ_self _))
  clear ho1 hs1 hg1
  go_wp2_with fail
  refine (HT.out (q4 zs) _ RR1.out (HR.out.below (Nat.le_refl _) HB1.out)).mono ?_
  rintro e v2 ⟨rfl, hs2, hg2⟩
  have RR2 := Lib.hid (show SpR v2 (w.heap.size + 1) A n c (q5 zs) from hs2)
  have hz2 : w.heap.size + 1 + 1 ≤ v2.heap.size := Nat.le_trans hz1 hg2.size
  have HB2 := Lib.hid (HB1.out.trans (grownO_below hg2 (Nat.le_succ _) (by omega)))
  have RO2 := Lib.hid (RO1.out.below (grownO_below hg2 (Nat.le_refl (w.heap.size + 1)) (by omega)) (Nat.lt_succ_self _))
  have HO2 := Lib.hid (show OwnI v2 (w.heap.size + 1 + 1) A1 n1 c1 (varsL zs 4 0) from World.ownsRow.kept (h := HO1.out) hg2 (by
    rcases he : (Value.slice A1 n1 c1).ownBlock with _ | x
    · exact .inl rfl
    · refine .inr (fun e => ?_)
      injection e with e
      have := (HO1.out.blk x he).1
      omega))
  clear hs2 hg2
  go_wp2_with fail
  refine (HT.out (q5 zs) _ RR2.out (HR.out.below (Nat.le_refl _) HB2.out)).mono ?_
  rintro e v3 ⟨rfl, hs3, hg3⟩
  have RR3 := Lib.hid (show SpR v3 (w.heap.size + 1) A n c (q6 zs) from hs3)
  have hz3 : w.heap.size + 1 + 1 ≤ v3.heap.size := Nat.le_trans hz2 hg3.size
  have HB3 := Lib.hid (HB2.out.trans (grownO_below hg3 (Nat.le_succ _) (by omega)))
  have RO3 := Lib.hid (RO2.out.below (grownO_below hg3 (Nat.le_refl (w.heap.size + 1)) (by omega)) (Nat.lt_succ_self _))
  have HO3 := Lib.hid (show OwnI v3 (w.heap.size + 1 + 1) A1 n1 c1 (varsL zs 4 0) from World.ownsRow.kept (h := HO2.out) hg3 (by
    rcases he : (Value.slice A1 n1 c1).ownBlock with _ | x
    · exact .inl rfl
    · refine .inr (fun e => ?_)
      injection e with e
      have := (HO2.out.blk x he).1
      omega))
  clear hs3 hg3
  go_wp2_with fail
  refine (HT.out (q6 zs) _ RR3.out (HR.out.below (Nat.le_refl _) HB3.out)).mono ?_
  rintro e v4 ⟨rfl, hs4, hg4⟩
  have RR4 := Lib.hid (show SpR v4 (w.heap.size + 1) A n c (q7 zs) from hs4)
  have hz4 : w.heap.size + 1 + 1 ≤ v4.heap.size := Nat.le_trans hz3 hg4.size
  have HB4 := Lib.hid (HB3.out.trans (grownO_below hg4 (Nat.le_succ _) (by omega)))
  have RO4 := Lib.hid (RO3.out.below (grownO_below hg4 (Nat.le_refl (w.heap.size + 1)) (by omega)) (Nat.lt_succ_self _))
  have HO4 := Lib.hid (show OwnI v4 (w.heap.size + 1 + 1) A1 n1 c1 (varsL zs 4 0) from World.ownsRow.kept (h := HO3.out) hg4 (by
    rcases he : (Value.slice A1 n1 c1).ownBlock with _ | x
    · exact .inl rfl
    · refine .inr (fun e => ?_)
      injection e with e
      have := (HO3.out.blk x he).1
      omega))
  clear hs4 hg4
  go_wp2_with fail
  refine (HT.out (q7 zs) _ RR4.out (HR.out.below (Nat.le_refl _) HB4.out)).mono ?_
  rintro e v5 ⟨rfl, hs5, hg5⟩
  have RR5 := Lib.hid (show SpR v5 (w.heap.size + 1) A n c (q8 zs) from hs5)
  have hz5 : w.heap.size + 1 + 1 ≤ v5.heap.size := Nat.le_trans hz4 hg5.size
  have HB5 := Lib.hid (HB4.out.trans (grownO_below hg5 (Nat.le_succ _) (by omega)))
  have RO5 := Lib.hid (RO4.out.below (grownO_below hg5 (Nat.le_refl (w.heap.size + 1)) (by omega)) (Nat.lt_succ_self _))
  have HO5 := Lib.hid (show OwnI v5 (w.heap.size + 1 + 1) A1 n1 c1 (varsL zs 4 0) from World.ownsRow.kept (h := HO4.out) hg5 (by
    rcases he : (Value.slice A1 n1 c1).ownBlock with _ | x
    · exact .inl rfl
    · refine .inr (fun e => ?_)
      injection e with e
      have := (HO4.out.blk x he).1
      omega))
  clear hs5 hg5
  obtain ⟨at5, bad5, hrow5, hcase5⟩ := RR5.out
  have k2 : v5.cell? ⟨w.heap.size + 1, 2, none⟩ = some (.bool bad5) := hrow5.cell 2
  clear hrow5
  rcases hcase5 with ⟨rfl, rfl, hp⟩ | ⟨rfl, hp⟩
  rotate_left
  · have HNO := Lib.hid (rdB_neg hp)
    clear hp
    have y0 : v5.cell? ⟨w.heap.size, 0, none⟩ = some (.int .i64 0) := RO5.out.cell 0
    have y1 : v5.cell? ⟨w.heap.size, 1, none⟩ = some (.int .i64 0) := RO5.out.cell 1
    have y2 : v5.cell? ⟨w.heap.size, 2, none⟩ = some (.int .i64 0) := RO5.out.cell 2
    have y3 : v5.cell? ⟨w.heap.size, 3, none⟩ = some (.int .i64 0) := RO5.out.cell 3
    have y4 : v5.cell? ⟨w.heap.size, 4, none⟩ = some (.string ByteArray.empty) := RO5.out.cell 4
    have y5 : v5.cell? ⟨w.heap.size, 5, none⟩ = some (.string ByteArray.empty) := RO5.out.cell 5
    have y6 : v5.cell? ⟨w.heap.size, 6, none⟩ = some (.string ByteArray.empty) := RO5.out.cell 6
    have y7 : v5.cell? ⟨w.heap.size, 7, none⟩ = some (.slice none 0 0) := RO5.out.cell 7
    have z0 : v5.frozen? ⟨w.heap.size, 0, none⟩ = false := RO5.out.free 0
    have z1 : v5.frozen? ⟨w.heap.size, 1, none⟩ = false := RO5.out.free 1
    have z2 : v5.frozen? ⟨w.heap.size, 2, none⟩ = false := RO5.out.free 2
    have z3 : v5.frozen? ⟨w.heap.size, 3, none⟩ = false := RO5.out.free 3
    have z4 : v5.frozen? ⟨w.heap.size, 4, none⟩ = false := RO5.out.free 4
    have z5 : v5.frozen? ⟨w.heap.size, 5, none⟩ = false := RO5.out.free 5
    have z6 : v5.frozen? ⟨w.heap.size, 6, none⟩ = false := RO5.out.free 6
    have z7 : v5.frozen? ⟨w.heap.size, 7, none⟩ = false := RO5.out.free 7
    have lt5 : w.heap.size < v5.heap.size := RO5.out.lt
    go_wp2_with fail
    exact bodyPost_ret (v := .tuple #[opV 0 0 0 0 ByteArray.empty ByteArray.empty ByteArray.empty none 0 0, .bool false]) (by simp [results, Try.results42, go_sem, y0, y1, y2, y3, y4, y5, y6, y7, z0, z1, z2, z3, z4, z5, z6, z7]; rfl) rfl (RdSp.no HNO.out (Below.setEight HB5.out))
  · have HVL := Lib.hid (vars4 hp)
    clear hp
    have HO6 := HO5.out
    rw [HVL.out] at HO6
    obtain ⟨rfl, h, rfl, hh, x0, x1, x2, x3⟩ := ints4 HO6
    clear HO6
    have hh1 : h < v5.heap.size + 1 := Nat.lt_succ_of_lt hh
    have hh2 : h < v5.heap.size + 1 + 1 := Nat.lt_succ_of_lt hh1
    have b0 : (Lib.bytesWorld v5.drew 5 (gtS zs (q7 zs))).cell? ⟨h, 0, none⟩ = some (.int .i64 (gvN zs 0)) := (Lib.bytesWorld_old _ _ _ _ (show h < v5.drew.heap.size from hh)).trans x0
    have c0 : (Lib.bytesWorld (v5.drew.alloc (.cells #[.int .i64 0, .int .i64 0, .int .i64 0, .int .i64 0, .string ByteArray.empty, .string ByteArray.empty, .string ByteArray.empty, .slice none 0 0] 58)) 5 (gtS zs (q7 zs))).cell? ⟨h, 0, none⟩ = some (.int .i64 (gvN zs 0)) := (Lib.bytesWorld_old _ _ _ _ (show h < (v5.drew.alloc (.cells #[.int .i64 0, .int .i64 0, .int .i64 0, .int .i64 0, .string ByteArray.empty, .string ByteArray.empty, .string ByteArray.empty, .slice none 0 0] 58)).heap.size by simp; omega)).trans (by rw [World.cell?_alloc_past _ _ _ (show h < v5.drew.heap.size from hh)]; exact x0)
    have b1 : (Lib.bytesWorld v5.drew 5 (gtS zs (q7 zs))).cell? ⟨h, 1, none⟩ = some (.int .i64 (gvN zs (q1 zs))) := (Lib.bytesWorld_old _ _ _ _ (show h < v5.drew.heap.size from hh)).trans x1
    have c1 : (Lib.bytesWorld (v5.drew.alloc (.cells #[.int .i64 0, .int .i64 0, .int .i64 0, .int .i64 0, .string ByteArray.empty, .string ByteArray.empty, .string ByteArray.empty, .slice none 0 0] 58)) 5 (gtS zs (q7 zs))).cell? ⟨h, 1, none⟩ = some (.int .i64 (gvN zs (q1 zs))) := (Lib.bytesWorld_old _ _ _ _ (show h < (v5.drew.alloc (.cells #[.int .i64 0, .int .i64 0, .int .i64 0, .int .i64 0, .string ByteArray.empty, .string ByteArray.empty, .string ByteArray.empty, .slice none 0 0] 58)).heap.size by simp; omega)).trans (by rw [World.cell?_alloc_past _ _ _ (show h < v5.drew.heap.size from hh)]; exact x1)
    have b2 : (Lib.bytesWorld v5.drew 5 (gtS zs (q7 zs))).cell? ⟨h, 2, none⟩ = some (.int .i64 (gvN zs (q2 zs))) := (Lib.bytesWorld_old _ _ _ _ (show h < v5.drew.heap.size from hh)).trans x2
    have c2 : (Lib.bytesWorld (v5.drew.alloc (.cells #[.int .i64 0, .int .i64 0, .int .i64 0, .int .i64 0, .string ByteArray.empty, .string ByteArray.empty, .string ByteArray.empty, .slice none 0 0] 58)) 5 (gtS zs (q7 zs))).cell? ⟨h, 2, none⟩ = some (.int .i64 (gvN zs (q2 zs))) := (Lib.bytesWorld_old _ _ _ _ (show h < (v5.drew.alloc (.cells #[.int .i64 0, .int .i64 0, .int .i64 0, .int .i64 0, .string ByteArray.empty, .string ByteArray.empty, .string ByteArray.empty, .slice none 0 0] 58)).heap.size by simp; omega)).trans (by rw [World.cell?_alloc_past _ _ _ (show h < v5.drew.heap.size from hh)]; exact x2)
    have b3 : (Lib.bytesWorld v5.drew 5 (gtS zs (q7 zs))).cell? ⟨h, 3, none⟩ = some (.int .i64 (gvN zs (q3 zs))) := (Lib.bytesWorld_old _ _ _ _ (show h < v5.drew.heap.size from hh)).trans x3
    have c3 : (Lib.bytesWorld (v5.drew.alloc (.cells #[.int .i64 0, .int .i64 0, .int .i64 0, .int .i64 0, .string ByteArray.empty, .string ByteArray.empty, .string ByteArray.empty, .slice none 0 0] 58)) 5 (gtS zs (q7 zs))).cell? ⟨h, 3, none⟩ = some (.int .i64 (gvN zs (q3 zs))) := (Lib.bytesWorld_old _ _ _ _ (show h < (v5.drew.alloc (.cells #[.int .i64 0, .int .i64 0, .int .i64 0, .int .i64 0, .string ByteArray.empty, .string ByteArray.empty, .string ByteArray.empty, .slice none 0 0] 58)).heap.size by simp; omega)).trans (by rw [World.cell?_alloc_past _ _ _ (show h < v5.drew.heap.size from hh)]; exact x3)
    have bs1 : h < (Lib.bytesWorld v5.drew 5 (gtS zs (q7 zs))).heap.size := by rw [Lib.bytesWorld_size]; exact hh1
    have bs2 : h ≠ (Lib.bytesWorld v5.drew 5 (gtS zs (q7 zs))).heap.size := Nat.ne_of_lt bs1
    have bs3 : (Lib.bytesWorld v5.drew 5 (gtS zs (q7 zs))).heap.size ≠ h := bs2.symm
    have bs4 : h < (Lib.bytesWorld (v5.drew.alloc (.cells #[.int .i64 0, .int .i64 0, .int .i64 0, .int .i64 0, .string ByteArray.empty, .string ByteArray.empty, .string ByteArray.empty, .slice none 0 0] 58)) 5 (gtS zs (q7 zs))).heap.size := by rw [Lib.bytesWorld_size]; simp; omega
    have hw1 : ∀ W s, (Lib.bytesWorld W 5 s).heap.size = W.heap.size + 1 := fun W s => Lib.bytesWorld_size W 5 s
    have hw2 : ∀ W s (a : Addr), a.block < W.heap.size → (Lib.bytesWorld W 5 s).cell? a = W.cell? a := fun W s a ha => Lib.bytesWorld_old W 5 s a ha
    have hne : h ≠ v5.heap.size := Nat.ne_of_lt hh
    have hne1 : h ≠ v5.heap.size + 1 := Nat.ne_of_lt hh1
    have hne2 : v5.heap.size ≠ h := hne.symm
    have hne3 : v5.heap.size + 1 ≠ h := hne1.symm
    have hcv := fun W => Lib.run_convert_string_bytes (P := Try.prog) W 9 22 5 (gtS zs (q7 zs)) Try.underlying9 Try.underlying22 Try.underlying5
    go_upto_region 9 with fail
    go_cut [10] (fun s wx => LayQ zs v5 s wx)
    case first =>
      go_region
      all_goals
        go_wp2_with fail
        go_meet
        case rel => first | exact layQ_a zs v5 _ | exact layQ_b zs v5 _ _ _ _ _ _ _ _ _
    case rest =>
      obtain ⟨b, g, cp, rfl, hb1, hg1, hg2, hrow, hrd, hbel⟩ := hcut
      clear x0 x1 x2 x3 b0 b1 b2 b3 c0 c1 c2 c3 bs1 bs2 bs3 bs4 hw1 hw2 hcv hne hne1 hne2 hne3 hh hh1 hh2 k2
      have HROW := Lib.hid hrow
      have HRD := Lib.hid hrd
      have lt5 : w.heap.size < v5.heap.size := RO5.out.lt
      have RO6 := Lib.hid (RO5.out.below hbel lt5)
      have HB6 := Lib.hid (HB5.out.trans (hbel.mono (by omega)))
      have ltb : b < wc.heap.size := hrow.lt
      have j0 : wc.cell? ⟨b, 0, none⟩ = some (.int .i64 (gvN zs 0)) := hrow.cell 0
      have j1 : wc.cell? ⟨b, 1, none⟩ = some (.int .i64 (gvN zs (q1 zs))) := hrow.cell 1
      have j2 : wc.cell? ⟨b, 2, none⟩ = some (.int .i64 (gvN zs (q2 zs))) := hrow.cell 2
      have j3 : wc.cell? ⟨b, 3, none⟩ = some (.int .i64 (gvN zs (q3 zs))) := hrow.cell 3
      have j4 : wc.cell? ⟨b, 4, none⟩ = some (.string (gtS zs (q4 zs))) := hrow.cell 4
      have j5 : wc.cell? ⟨b, 5, none⟩ = some (.string (gtS zs (q5 zs))) := hrow.cell 5
      have j6 : wc.cell? ⟨b, 6, none⟩ = some (.string (gtS zs (q6 zs))) := hrow.cell 6
      have j7 : wc.cell? ⟨b, 7, none⟩ = some (.slice (some ⟨g, 0, none⟩) (byt (gtS zs (q7 zs))).length cp) := hrow.cell 7
      clear hrow hrd hbel
      go_wp2_with fail
      refine (HOB.out (some ⟨g, 0, none⟩) cp _ HRD.out (fun e => by cases e)).mono ?_
      rintro e v6 ⟨A6, n6, c6, rfl, ho6', hb6⟩
      have RO7 := Lib.hid (RO6.out.below hb6 RO6.out.lt)
      have RB7 := Lib.hid (HROW.out.below hb6 ltb)
      have HB7 := Lib.hid (HB6.out.trans (hb6.mono HB6.out.size))
      have HRD7 := Lib.hid (HRD.out.below (Nat.le_refl _) hb6)
      have lt7 : w.heap.size < v6.heap.size := RO7.out.lt
      have hz6 : wc.heap.size ≤ v6.heap.size := hb6.size
      have ltg : g < v6.heap.size := Nat.lt_of_lt_of_le hg2 hb6.size
      clear hb6 j0 j1 j2 j3 j4 j5 j6 j7
      have hOK : opOK (gvN zs 0) (gvN zs (q1 zs)) (gvN zs (q2 zs)) (gvN zs (q3 zs)) (gtS zs (q4 zs)) (gtS zs (q5 zs)) (gtS zs (q6 zs)) (byt (gtS zs (q7 zs))).length = rvOk zs := rfl
      have y0 : v6.cell? ⟨w.heap.size, 0, none⟩ = some (.int .i64 0) := RO7.out.cell 0
      have y1 : v6.cell? ⟨w.heap.size, 1, none⟩ = some (.int .i64 0) := RO7.out.cell 1
      have y2 : v6.cell? ⟨w.heap.size, 2, none⟩ = some (.int .i64 0) := RO7.out.cell 2
      have y3 : v6.cell? ⟨w.heap.size, 3, none⟩ = some (.int .i64 0) := RO7.out.cell 3
      have y4 : v6.cell? ⟨w.heap.size, 4, none⟩ = some (.string ByteArray.empty) := RO7.out.cell 4
      have y5 : v6.cell? ⟨w.heap.size, 5, none⟩ = some (.string ByteArray.empty) := RO7.out.cell 5
      have y6 : v6.cell? ⟨w.heap.size, 6, none⟩ = some (.string ByteArray.empty) := RO7.out.cell 6
      have y7 : v6.cell? ⟨w.heap.size, 7, none⟩ = some (.slice none 0 0) := RO7.out.cell 7
      have z0 : v6.frozen? ⟨w.heap.size, 0, none⟩ = false := RO7.out.free 0
      have z1 : v6.frozen? ⟨w.heap.size, 1, none⟩ = false := RO7.out.free 1
      have z2 : v6.frozen? ⟨w.heap.size, 2, none⟩ = false := RO7.out.free 2
      have z3 : v6.frozen? ⟨w.heap.size, 3, none⟩ = false := RO7.out.free 3
      have z4 : v6.frozen? ⟨w.heap.size, 4, none⟩ = false := RO7.out.free 4
      have z5 : v6.frozen? ⟨w.heap.size, 5, none⟩ = false := RO7.out.free 5
      have z6 : v6.frozen? ⟨w.heap.size, 6, none⟩ = false := RO7.out.free 6
      have z7 : v6.frozen? ⟨w.heap.size, 7, none⟩ = false := RO7.out.free 7
      cases hok : rvOk zs
      · have HNO := Lib.hid (show rdB zs = false by unfold rdB; rw [hok]; rfl)
        rw [hOK, hok] at ho6' ⊢
        clear ho6' hOK hok
        go_wp2_with fail
        exact bodyPost_ret (v := .tuple #[opV 0 0 0 0 ByteArray.empty ByteArray.empty ByteArray.empty none 0 0, .bool false]) (by simp [results, Try.results42, go_sem, y0, y1, y2, y3, y4, y5, y6, y7, z0, z1, z2, z3, z4, z5, z6, z7]; rfl) rfl (RdSp.no HNO.out (Below.setEight HB7.out))
      · rw [hOK, hok] at ho6' ⊢
        have HO6 := Lib.hid (show Own v6 wc.heap.size A6 n6 c6 (rvE zs) from ho6')
        clear ho6' hOK
        have cv1 := conv_str v6 A6 n6 c6 (rvE zs) v6.heap.size HO6.out.rd HO6.out.len (own_none HO6.out)
        have cv2 := conv_str v6 A n c zs w.heap.size (HR.out.below (Nat.le_refl _) HB7.out) HL.out HA.out
        have hse := str_eq (rvE_rng zs) HG.out
        cases heq : eqB (rvE zs) zs
        · have HNO := Lib.hid (show rdB zs = false by unfold rdB; rw [hok, heq]; rfl)
          rw [heq] at hse
          have hsn : (!((strOfNums (rvE zs)).toList == (strOfNums zs).toList)) = true := by rw [hse]; rfl
          clear hok heq hse
          go_wp2_with fail
          exact bodyPost_ret (v := .tuple #[opV 0 0 0 0 ByteArray.empty ByteArray.empty ByteArray.empty none 0 0, .bool false]) (by simp [results, Try.results42, go_sem, y0, y1, y2, y3, y4, y5, y6, y7, z0, z1, z2, z3, z4, z5, z6, z7]; rfl) rfl (RdSp.no HNO.out (Below.setEight HB7.out))
        · have HYES := Lib.hid (show rdB zs = true by unfold rdB; rw [hok, heq]; rfl)
          rw [heq] at hse
          have hsn : (!((strOfNums (rvE zs)).toList == (strOfNums zs).toList)) = false := by rw [hse]; rfl
          clear hok heq hse
          have j0 : v6.cell? ⟨b, 0, none⟩ = some (.int .i64 (gvN zs 0)) := RB7.out.cell 0
          have j1 : v6.cell? ⟨b, 1, none⟩ = some (.int .i64 (gvN zs (q1 zs))) := RB7.out.cell 1
          have j2 : v6.cell? ⟨b, 2, none⟩ = some (.int .i64 (gvN zs (q2 zs))) := RB7.out.cell 2
          have j3 : v6.cell? ⟨b, 3, none⟩ = some (.int .i64 (gvN zs (q3 zs))) := RB7.out.cell 3
          have j4 : v6.cell? ⟨b, 4, none⟩ = some (.string (gtS zs (q4 zs))) := RB7.out.cell 4
          have j5 : v6.cell? ⟨b, 5, none⟩ = some (.string (gtS zs (q5 zs))) := RB7.out.cell 5
          have j6 : v6.cell? ⟨b, 6, none⟩ = some (.string (gtS zs (q6 zs))) := RB7.out.cell 6
          have j7 : v6.cell? ⟨b, 7, none⟩ = some (.slice (some ⟨g, 0, none⟩) (byt (gtS zs (q7 zs))).length cp) := RB7.out.cell 7
          go_wp2_with fail
          have neg : w.heap.size ≠ g := by omega
          exact bodyPost_ret (v := .tuple #[rdV zs (some ⟨g, 0, none⟩) (byt (gtS zs (q7 zs))).length cp, .bool true]) (by simp [results, Try.results42, go_sem, y0, y1, y2, y3, y4, y5, y6, y7, z0, z1, z2, z3, z4, z5, z6, z7]) rfl (RdSp.yes HYES.out ((rd_set (rd_set (rd_set (rd_set (rd_set (rd_set (rd_set (rd_set HRD7.out _ 0 _ neg) _ 1 _ neg) _ 2 _ neg) _ 3 _ neg) _ 4 _ neg) _ 5 _ neg) _ 6 _ neg) _ 7 _ neg).more (by simp; exact hz6)) rfl (by omega) (by simp; exact ltg) (Below.setEight HB7.out))
end Go.Proofs.Yteiojpglhmikoaa.Oq
