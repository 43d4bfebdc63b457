/- Texts that lay in modules of their own: AttrT, Attr, ShowsD, GrC, GrTo. -/
import Derived.Test.YtgnpgkkjcloghaaGreatDoorRows
import Derived.WalkKit
import Derived.WalkSmall
import Derived.Below
import Derived.Lib.Hide
import Derived.Test.YtgnpgkkjcloghaaGreatDoorKiA
import Derived.Deep.RegionWith
import Derived.Deep.DrawnRows
namespace Go.Proofs.YtgnpgkkjcloghaaGreatDoor.Attr
open Go.RowKit
set_option linter.unusedVariables false
theorem rt_bool {a b : Bool} (h : a = b) : Ending.returned (.bool a) = .returned (.bool b) := by rw [h]
theorem bcell {W w1 : World} (hb : Below W.heap.size W w1) : (∀ b o, b < W.heap.size → w1.cell? ⟨b, o, none⟩ = W.cell? ⟨b, o, none⟩) ∧ (∀ b o, b < W.heap.size → w1.frozen? ⟨b, o, none⟩ = W.frozen? ⟨b, o, none⟩) :=
  ⟨fun b o h => hb.cell (p := ⟨b, o, none⟩) h, fun b o h => hb.frozen (p := ⟨b, o, none⟩) h⟩
def okA (fg bg : Int) : Bool := decide (0 ≤ fg ∧ fg ≤ 8 ∧ 0 ≤ bg ∧ bg ≤ 8)
end Go.Proofs.YtgnpgkkjcloghaaGreatDoor.Attr
namespace Go.Proofs.YtgnpgkkjcloghaaGreatDoor.Attr
open Go.RowKit
set_option linter.unusedVariables false
set_option maxRecDepth 100000 in
set_option maxHeartbeats 400000 in
theorem eqAttr_yes (fg bg : Int) (b u t : Bool) (w : World) :
    Calls Tryz.prog 166 #[.agg #[.int .i64 fg, .int .i64 bg, .bool b, .bool u, .bool t], .agg #[.int .i64 fg, .int .i64 bg, .bool b, .bool u, .bool t]] w
      fun e w' => e = .returned (.bool true) ∧ Below w.heap.size w w' := by
  have e1 : (fg != fg) = false := by simp
  have e2 : (bg != bg) = false := by simp
  have e3 : (b != b) = false := by simp
  have e4 : (u != u) = false := by simp
  have e5 : (t != t) = false := by simp
  go_enter Tryz.func166, Tryz.ntmps166
  go_wp2_with fail
  go_ret
  refine ⟨rfl, ?_⟩
  repeat (first | refine Below.setCell ?_ (by simp <;> omega) _ | refine Below.alloc ?_ (by simp <;> omega) _)
  exact Below.refl _ _

end Go.Proofs.YtgnpgkkjcloghaaGreatDoor.Attr
namespace Go.Proofs.YtgnpgkkjcloghaaGreatDoor.Rune
open Go.RowKit
set_option linter.unusedVariables false
theorem rt_bool {a b : Bool} (h : a = b) : Ending.returned (.bool a) = .returned (.bool b) := by rw [h]
def showB (r : Int) : Bool := decide ((32 ≤ r ∧ r ≤ 126) ∨ (160 ≤ r ∧ r ≤ 65535 ∧ (r < 55296 ∨ 57343 < r)))

end Go.Proofs.YtgnpgkkjcloghaaGreatDoor.Rune
namespace Go.Proofs.YtgnpgkkjcloghaaGreatDoor.Gr
open Go.RowKit Go.Proofs.YtgnpgkkjcloghaaGreatDoor.Bytes Go.Proofs.YtgnpgkkjcloghaaGreatDoor.Rows_ Go.Proofs.YtgnpgkkjcloghaaGreatDoor.Attr Go.Proofs.YtgnpgkkjcloghaaGreatDoor.Rune
set_option linter.unusedVariables false
structure CellD where
  r : Int
  fg : Int
  bg : Int
  b : Bool
  u : Bool
  t : Bool
instance : Inhabited CellD := ⟨⟨0, 0, 0, false, false, false⟩⟩
def cellR (x : CellD) : List Value := [.int .i64 x.r, .int .i64 x.fg, .int .i64 x.bg, .bool x.b, .bool x.u, .bool x.t]
def okC (x : CellD) : Bool := showB x.r && okA x.fg x.bg
def RdC (w : World) (B : Nat) (A : Option Addr) (cs : List CellD) : Prop := RdK 6 w B A (cs.map cellR)
def OwnC (w : World) (base : Nat) (A : Option Addr) (n c : Nat) (cs : List CellD) : Prop := w.ownsRow base 86 6 (.slice A n c) n (cs.map cellR).flatten
section
variable {w w' : World} {B B' : Nat} {A : Option Addr}
theorem RdC.below {ks : List CellD} (h : RdC w B A ks) (hB : B ≤ B') (hb : Below B' w w') : RdC w' B A ks := RdK.below h hB hb
theorem RdC.more {ks : List CellD} (h : RdC w B A ks) (hB : B ≤ B') : RdC w B' A ks := RdK.more h hB
theorem RdC.at_ {ks : List CellD} (h : RdC w B A ks) {i : Nat} (hi : i < ks.length) :
    ∃ b o, A = some ⟨b, o, none⟩ ∧ b < B ∧ w.cell? ⟨b, o + i * 6, none⟩ = some (.int .i64 ks[i].r) ∧ w.cell? ⟨b, o + i * 6 + 1, none⟩ = some (.int .i64 ks[i].fg) ∧ w.cell? ⟨b, o + i * 6 + 2, none⟩ = some (.int .i64 ks[i].bg) ∧ w.cell? ⟨b, o + i * 6 + 3, none⟩ = some (.bool ks[i].b) ∧ w.cell? ⟨b, o + i * 6 + 4, none⟩ = some (.bool ks[i].u) ∧ w.cell? ⟨b, o + i * 6 + 5, none⟩ = some (.bool ks[i].t) := by
  obtain ⟨b, o, e, hlt, hc⟩ := RdK.at_ h (i := i) (r := cellR ks[i]) (by simp [hi])
  exact ⟨b, o, e, hlt, hc 0 _ rfl, hc 1 _ rfl, hc 2 _ rfl, hc 3 _ rfl, hc 4 _ rfl, hc 5 _ rfl⟩
end
theorem cell_len : ∀ (ks : List CellD), ∀ r ∈ ks.map cellR, r.length = 6 := by
  intro ks r hr; simp at hr; obtain ⟨_, _, rfl⟩ := hr; rfl

/-! ### comparing -/
set_option maxRecDepth 100000 in
set_option maxHeartbeats 800000 in
theorem eqCell_yes (r fg bg : Int) (b u t : Bool) (w : World) :
    Calls Tryz.prog 191 #[.agg #[.int .i64 r, .int .i64 fg, .int .i64 bg, .bool b, .bool u, .bool t], .agg #[.int .i64 r, .int .i64 fg, .int .i64 bg, .bool b, .bool u, .bool t]] w
      fun e w' => e = .returned (.bool true) ∧ Below w.heap.size w w' := by
  have e1 : (r != r) = false := by simp
  have h0 := Lib.hid (((Below.refl w.heap.size w).alloc (Nat.le_refl _) (.cells #[.int .i64 r, .int .i64 fg, .int .i64 bg, .bool b, .bool u, .bool t] 86)).alloc (by simp) (.cells #[.int .i64 r, .int .i64 fg, .int .i64 bg, .bool b, .bool u, .bool t] 86))
  go_enter Tryz.func191, Tryz.ntmps191
  go_wp2_with fail
  refine (eqAttr_yes _ _ _ _ _ _).mono ?_
  rintro e v1 ⟨rfl, hb1⟩
  have h1 := Lib.hid (h0.out.trans (hb1.mono (by simp; omega)))
  clear hb1
  go_wp2_with fail
  go_ret
  exact ⟨rfl, h1.out⟩

end Go.Proofs.YtgnpgkkjcloghaaGreatDoor.Gr
namespace Go.Proofs.YtgnpgkkjcloghaaGreatDoor.Gr
open Go.RowKit Go.Proofs.YtgnpgkkjcloghaaGreatDoor.Bytes Go.Proofs.YtgnpgkkjcloghaaGreatDoor.Rows_ Go.Proofs.YtgnpgkkjcloghaaGreatDoor.RowK
set_option linter.unusedVariables false
attribute [local go_sem ↓] Go.wp_at_zero Go.wp_at_succ
section
variable {w : World} {base g n c : Nat} {E : TypeId} {pre post : List (List Value)}
theorem row6 {z0 z1 z2 z3 z4 z5 : Value} (v0 v1 v2 v3 v4 v5 : Value) (hpre : ∀ r ∈ pre, r.length = 6) (k : Nat) (hk : pre.length = k) (h : w.ownsRow base E 6 (.slice (some ⟨g, 0, none⟩) n c) n (pre ++ [[z0, z1, z2, z3, z4, z5]] ++ post).flatten) :
    ((((((w.setCell ⟨g, k * 6, none⟩ v0).setCell ⟨g, k * 6 + 1, none⟩ v1).setCell ⟨g, k * 6 + 2, none⟩ v2).setCell ⟨g, k * 6 + 3, none⟩ v3).setCell ⟨g, k * 6 + 4, none⟩ v4).setCell ⟨g, k * 6 + 5, none⟩ v5).ownsRow base E 6 (.slice (some ⟨g, 0, none⟩) n c) n (pre ++ [[v0, v1, v2, v3, v4, v5]] ++ post).flatten := by
  have h0 := rowJ (K := 6) rfl hpre k hk 0 (by omega) v0 h
  have h1 := rowJ (K := 6) rfl hpre k hk 1 (by omega) v1 h0
  have h2 := rowJ (K := 6) rfl hpre k hk 2 (by omega) v2 h1
  have h3 := rowJ (K := 6) rfl hpre k hk 3 (by omega) v3 h2
  have h4 := rowJ (K := 6) rfl hpre k hk 4 (by omega) v4 h3
  exact rowJ (K := 6) rfl hpre k hk 5 (by omega) v5 h4
end
theorem cellInfo : (Tryz.prog.info? 86).map (fun i => (i.zero, i.size, i.bytes)) = some (some (.agg #[.int .i64 0, .int .i64 0, .int .i64 0, .bool false, .bool false, .bool false]), 6, 32) := by kernel_rfl
theorem OwnC.rd {w : World} {base : Nat} {A : Option Addr} {n c : Nat} {cs : List CellD} (h : OwnC w base A n c cs) : RdC w w.heap.size A cs := own_rdK (cell_len cs) (by omega) h
theorem OwnC.len {w : World} {base : Nat} {A : Option Addr} {n c : Nat} {cs : List CellD} (h : OwnC w base A n c cs) : cs.length = n := by
  have := h.1; rw [flat_len 6 _ (cell_len cs)] at this; simp at this; omega
theorem OwnC.below {w w' : World} {base B : Nat} {A : Option Addr} {n c : Nat} {cs : List CellD} (h : OwnC w base A n c cs) (hB : w.heap.size ≤ B) (hb : Below B w w') : OwnC w' base A n c cs := own_belowK h hB hb
theorem OwnC.more {w : World} {base base' : Nat} {A : Option Addr} {n c : Nat} {cs : List CellD} (h : OwnC w base A n c cs) (hB : base' ≤ base) : OwnC w base' A n c cs := own_moreK h hB
theorem OwnC.blk {w : World} {base : Nat} {A : Option Addr} {n c : Nat} {cs : List CellD} (h : OwnC w base A n c cs) : ∀ g, (Value.slice A n c).ownBlock = some g → base ≤ g ∧ g < w.heap.size := World.ownsRow.lt h
theorem OwnC.only {S : Nat → Prop} {w w' : World} {base : Nat} {A : Option Addr} {n c : Nat} {cs : List CellD} (h : OwnC w base A n c cs) (on : Only S w w') (hd : ∀ i, (Value.slice A n c).ownBlock = some i → ¬ S i) : OwnC w' base A n c cs := Only.own h on hd

/-! ### the comparison, where both hold the same -/
set_option maxRecDepth 100000 in
set_option maxHeartbeats 3200000 in
theorem eqCellS_yes (F G : Option Addr) (n c c' : Nat) (cs : List CellD) (w : World) (hf : RdC w w.heap.size F cs) (hg : RdC w w.heap.size G cs) (hl : cs.length = n) (hn : n ≤ 1099511627776) :
    Calls Tryz.prog 184 #[.slice F n c, .slice G n c'] w fun e w' => e = .returned (.bool true) ∧ Below w.heap.size w w' := by
  have HF := Lib.hid hf
  have HG := Lib.hid hg
  have HL := Lib.hid hl
  have hnn : (n != n) = false := by simp
  clear hf hg hl
  go_enter Tryz.func184, Tryz.ntmps184
  go_wp2_with fail
  go_loopw [5] (fun i wr => ∃ k : Nat, k ≤ n ∧ i = .int .i64 k ∧ Below w.heap.size w wr) (fun i _ => n - (intOf i).toNat)
  case atStart => exact ⟨0, Nat.zero_le _, rfl, Below.refl _ _⟩
  case round =>
    obtain ⟨k, hk, rfl, hb⟩ := hrel
    have hz : w.heap.size ≤ wr.heap.size := hb.size
    by_cases hlt : k < n
    · have hlf : k < cs.length := by rw [HL.out]; exact hlt
      obtain ⟨b, o, rfl, hB, hc0, hc1, hc2, hc3, hc4, hc5⟩ := (HF.out.below (Nat.le_refl _) hb).at_ hlf
      obtain ⟨b', o', rfl, hB', hd0, hd1, hd2, hd3, hd4, hd5⟩ := (HG.out.below (Nat.le_refl _) hb).at_ hlf
      have HB := Lib.hid hb
      clear hb
      generalize cs[k].r = x0 at *
      generalize cs[k].fg = x1 at *
      generalize cs[k].bg = x2 at *
      generalize cs[k].b = x3 at *
      generalize cs[k].u = x4 at *
      generalize cs[k].t = x5 at *
      go_wp2_with fail
      go_region_with ((go_at_call 191; refine (eqCell_yes x0 x1 x2 x3 x4 x5 _).mono ?_; rintro e v1 ⟨rfl, hb1'⟩; have hb1 : Below wr.heap.size wr v1 := undrew hb1'; clear hb1'))
      all_goals
        have HB1 := Lib.hid (HB.out.trans (hb1.mono hz))
        clear hb1
        go_wp2_with fail
        exact ⟨⟨k + 1, by omega, by go_num, HB1.out⟩, by simp [intOf]; omega⟩
    · obtain rfl : n = k := by omega
      go_wp2_with fail
      go_ret
      exact ⟨rfl, hb⟩

set_option maxRecDepth 100000 in
set_option maxHeartbeats 1600000 in
theorem eqGrid_yes (gw gh : Int) (A A' : Option Addr) (n c c' : Nat) (cs : List CellD) (w : World) (hx : RdC w w.heap.size A cs) (hy : RdC w w.heap.size A' cs) (hl : cs.length = n) (hn : n ≤ 1099511627776) :
    Calls Tryz.prog 165 #[.agg #[.int .i64 gw, .int .i64 gh, .slice A n c], .agg #[.int .i64 gw, .int .i64 gh, .slice A' n c']] w fun e w' => e = .returned (.bool true) ∧ Below w.heap.size w w' := by
  have e1 : (gw != gw) = false := by simp
  have e2 : (gh != gh) = false := by simp
  have HX := Lib.hid hx
  have HY := Lib.hid hy
  have HL := Lib.hid hl
  have hb0 := Lib.hid (((Below.refl w.heap.size w).alloc (Nat.le_refl _) (.cells #[.int .i64 gw, .int .i64 gh, .slice A n c] 46)).alloc (by simp) (.cells #[.int .i64 gw, .int .i64 gh, .slice A' n c'] 46))
  clear hx hy hl
  go_enter Tryz.func165, Tryz.ntmps165
  go_wp2_with fail
  refine (eqCellS_yes A A' n c c' cs _ ((HX.out.below (Nat.le_refl _) hb0.out).more (by simp; omega)) ((HY.out.below (Nat.le_refl _) hb0.out).more (by simp; omega)) HL.out (by omega)).mono ?_
  rintro e v1 ⟨rfl, hb1⟩
  have HB1 := Lib.hid hb1
  clear hb1
  go_wp2_with fail
  go_ret
  exact ⟨rfl, hb0.out.trans (HB1.out.mono (by simp; omega))⟩
end Go.Proofs.YtgnpgkkjcloghaaGreatDoor.Gr
