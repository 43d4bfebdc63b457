/- Words and contracts over cells (a rune and an attribute): the laws' copy and comparison. -/
import Derived.Test.YthlpchojlddnbaaAttr
import Derived.Test.YthlpchojlddnbaaShowsD
import Derived.Test.YthlpchojlddnbaaKiA
namespace Go.Proofs.Ythlpchojlddnbaa.Gr
open Go.RowKit Go.Proofs.Ythlpchojlddnbaa.Bytes Go.Proofs.Ythlpchojlddnbaa.Rows_ Go.Proofs.Ythlpchojlddnbaa.Attr Go.Proofs.Ythlpchojlddnbaa.Rune
set_option linter.unusedVariables false
structure CellD where
  r : Int
  fg : Int
  bg : Int
  b : Bool
  u : Bool
  t : Bool
instance : Inhabited CellD := ⟨⟨0, 0, 0, false, false, false⟩⟩
def cellR (x : CellD) : List Value := [.int .i64 x.r, .int .i64 x.fg, .int .i64 x.bg, .bool x.b, .bool x.u, .bool x.t]
def okC (x : CellD) : Bool := showB x.r && okA x.fg x.bg
def RdC (w : World) (B : Nat) (A : Option Addr) (cs : List CellD) : Prop := RdK 6 w B A (cs.map cellR)
def OwnC (w : World) (base : Nat) (A : Option Addr) (n c : Nat) (cs : List CellD) : Prop := w.ownsRow base 37 6 (.slice A n c) n (cs.map cellR).flatten
section
variable {w w' : World} {B B' : Nat} {A : Option Addr}
theorem RdC.below {ks : List CellD} (h : RdC w B A ks) (hB : B ≤ B') (hb : Below B' w w') : RdC w' B A ks := RdK.below h hB hb
theorem RdC.more {ks : List CellD} (h : RdC w B A ks) (hB : B ≤ B') : RdC w B' A ks := RdK.more h hB
theorem RdC.at_ {ks : List CellD} (h : RdC w B A ks) {i : Nat} (hi : i < ks.length) :
    ∃ b o, A = some ⟨b, o, none⟩ ∧ b < B ∧ w.cell? ⟨b, o + i * 6, none⟩ = some (.int .i64 ks[i].r) ∧ w.cell? ⟨b, o + i * 6 + 1, none⟩ = some (.int .i64 ks[i].fg) ∧ w.cell? ⟨b, o + i * 6 + 2, none⟩ = some (.int .i64 ks[i].bg) ∧ w.cell? ⟨b, o + i * 6 + 3, none⟩ = some (.bool ks[i].b) ∧ w.cell? ⟨b, o + i * 6 + 4, none⟩ = some (.bool ks[i].u) ∧ w.cell? ⟨b, o + i * 6 + 5, none⟩ = some (.bool ks[i].t) := by
  obtain ⟨b, o, e, hlt, hc⟩ := RdK.at_ h (i := i) (r := cellR ks[i]) (by simp [hi])
  exact ⟨b, o, e, hlt, hc 0 _ rfl, hc 1 _ rfl, hc 2 _ rfl, hc 3 _ rfl, hc 4 _ rfl, hc 5 _ rfl⟩
end
theorem cell_len : ∀ (ks : List CellD), ∀ r ∈ ks.map cellR, r.length = 6 := by
  intro ks r hr; simp at hr; obtain ⟨_, _, rfl⟩ := hr; rfl

set_option maxRecDepth 100000 in
set_option maxHeartbeats 800000 in
theorem toCell_any (r fg bg : Int) (b u t : Bool) (w : World) :
    Calls Try.prog 13 #[.agg #[.int .i64 r, .int .i64 fg, .int .i64 bg, .bool b, .bool u, .bool t]] w
      fun e w' => e = .returned (.agg #[.int .i64 r, .int .i64 fg, .int .i64 bg, .bool b, .bool u, .bool t]) ∧ Below w.heap.size w w' := by
  go_enter Try.func13, Try.ntmps13
  go_wp2_with fail
  refine (toAttr_any _ _ _ _ _ _).mono ?_
  rintro e v1 ⟨rfl, hb1⟩
  obtain ⟨hc, hf⟩ := Rows_.bcell hb1
  have HB1 := Lib.hid hb1
  have hz : w.heap.size + 2 < v1.heap.size := by have := hb1.size; simp at this; omega
  clear hb1
  have s1 : w.heap.size < w.heap.size + 1 + 1 + 1 := by omega
  have s2 : w.heap.size + 1 < w.heap.size + 1 + 1 + 1 := by omega
  go_wp2_with fail
  refine bodyPost_ret (v := .agg #[.int .i64 r, .int .i64 fg, .int .i64 bg, .bool b, .bool u, .bool t]) (by simp [results, Try.results13, go_sem, hc]) rfl ⟨rfl, ?_⟩
  have h0 := Lib.hid ((((Below.refl w.heap.size w).alloc (Nat.le_refl _) (.cells #[.int .i64 r, .int .i64 fg, .int .i64 bg, .bool b, .bool u, .bool t] 28)).alloc (by simp) (.cells #[.int .i64 0, .int .i64 0, .int .i64 0, .bool false, .bool false, .bool false] 37)).alloc (by simp; omega) (.cells #[.int .i64 r, .int .i64 0, .int .i64 0, .bool false, .bool false, .bool false] 37))
  have h1 := Lib.hid (h0.out.trans (HB1.out.mono (by simp; omega)))
  repeat (first | refine Below.setCell ?_ (by simp <;> omega) _)
  exact h1.out

/-! ### comparing -/
set_option maxRecDepth 100000 in
set_option maxHeartbeats 800000 in
theorem eqCell_yes (r fg bg : Int) (b u t : Bool) (w : World) :
    Calls Try.prog 96 #[.agg #[.int .i64 r, .int .i64 fg, .int .i64 bg, .bool b, .bool u, .bool t], .agg #[.int .i64 r, .int .i64 fg, .int .i64 bg, .bool b, .bool u, .bool t]] w
      fun e w' => e = .returned (.bool true) ∧ Below w.heap.size w w' := by
  have e1 : (r != r) = false := by simp
  have h0 := Lib.hid (((Below.refl w.heap.size w).alloc (Nat.le_refl _) (.cells #[.int .i64 r, .int .i64 fg, .int .i64 bg, .bool b, .bool u, .bool t] 37)).alloc (by simp) (.cells #[.int .i64 r, .int .i64 fg, .int .i64 bg, .bool b, .bool u, .bool t] 37))
  go_enter Try.func96, Try.ntmps96
  go_wp2_with fail
  refine (eqAttr_yes _ _ _ _ _ _).mono ?_
  rintro e v1 ⟨rfl, hb1⟩
  have h1 := Lib.hid (h0.out.trans (hb1.mono (by simp; omega)))
  clear hb1
  go_wp2_with fail
  go_ret
  exact ⟨rfl, h1.out⟩

end Go.Proofs.Ythlpchojlddnbaa.Gr

