/- Words of GridNew, split off: a block that holds a grid; GridNew in the program and in the model: both answer a grid of blanks, or the zero value; at every two sides. -/
import Derived.Test.YthlpchojlddnbaaGrSE
import Derived.Deep.RegionLaw
import Derived.Deep.DrawnRows
import Derived.Laws.AppendOwn
import Derived.Deep.AppendLies
namespace Go.Proofs.Ythlpchojlddnbaa.Gr
open Go.RowKit Go.Proofs.Ythlpchojlddnbaa.Bytes Go.Proofs.Ythlpchojlddnbaa.Rows_ Go.Proofs.Ythlpchojlddnbaa.RowK
set_option linter.unusedVariables false
attribute [local go_sem ↓] Go.wp_at_zero Go.wp_at_succ
/-- a block that holds a grid by value -/
def BoxG (w : World) (b : Nat) (cs : Array Value) : Prop := w.heap[b]? = some (.cells cs 32 (0, 0))
theorem BoxG.lt {w : World} {b : Nat} {cs : Array Value} (h : BoxG w b cs) : b < w.heap.size := (Array.getElem?_eq_some_iff.1 h).1
theorem BoxG.cell {w : World} {b : Nat} {cs : Array Value} (h : BoxG w b cs) (j : Nat) : w.cell? ⟨b, j, none⟩ = cs[j]? := by unfold BoxG at h; simp [World.cell?, h]
theorem BoxG.free {w : World} {b : Nat} {cs : Array Value} (h : BoxG w b cs) (j : Nat) : w.frozen? ⟨b, j, none⟩ = false := by unfold BoxG at h; simp [World.frozen?, h]
theorem BoxG.below {w w' : World} {b B : Nat} {cs : Array Value} (h : BoxG w b cs) (hb : Below B w w') (hB : b < B) : BoxG w' b cs := by unfold BoxG at h ⊢; rw [hb.block b hB]; exact h
theorem BoxG.only {S : Nat → Prop} {w w' : World} {b : Nat} {cs : Array Value} (h : BoxG w b cs) (on : Only S w w') (hn : ¬ S b) : BoxG w' b cs := by
  have hl := h.lt
  unfold BoxG at h ⊢; rw [on.block b hl hn]; exact h
theorem BoxG.other {w : World} {b b' j : Nat} {cs : Array Value} {v : Value} (h : BoxG w b cs) (hne : b ≠ b') : BoxG (w.setCell ⟨b', j, none⟩ v) b cs := by
  unfold BoxG at h ⊢; rw [Below.heap_setCell _ _ _ _ hne]; exact h
theorem BoxG.set2 {w : World} {b : Nat} {x0 x1 x2 : Value} (h : BoxG w b #[x0, x1, x2]) (v : Value) : BoxG (w.setCell ⟨b, 2, none⟩ v) b #[x0, x1, v] := by
  unfold BoxG at h ⊢; simp [World.setCell, Array.getElem?_modify, h]
theorem BoxG.drew {w : World} {b : Nat} {cs : Array Value} (h : BoxG w b cs) : BoxG w.drew b cs := h
theorem BoxG.new (w : World) (cs : Array Value) : BoxG (w.alloc (.cells cs 32)) w.heap.size cs := heap_alloc_new w _
theorem OwnC.ne_ {w : World} {base : Nat} {A : Option Addr} {n c : Nat} {cs : List CellD} (h : OwnC w base A n c cs) {b : Nat} (hb : b < base) : ¬ (Value.slice A n c).ownBlock = some b := fun e => by have := (h.blk b e).1; omega
theorem OwnC.setBox {w : World} {base : Nat} {A : Option Addr} {n c : Nat} {cs : List CellD} (h : OwnC w base A n c cs) (b j : Nat) (v : Value) (hb : b < base) : OwnC (w.setCell ⟨b, j, none⟩ v) base A n c cs := own_setK h b j v hb
theorem ownC_nil (w : World) (base : Nat) : OwnC w base none 0 0 [] := ⟨rfl, .inl ⟨rfl, rfl⟩⟩

set_option maxRecDepth 100000 in
theorem blank_any (w : World) : Calls Try.prog 108 #[] w fun e w' => e = .returned (.agg #[.int .i64 32, .int .i64 0, .int .i64 0, .bool false, .bool false, .bool false]) ∧ Below w.heap.size w w' := by
  go_enter Try.func108, Try.ntmps108
  go_wp2_with fail
  refine bodyPost_ret (v := .agg #[.int .i64 32, .int .i64 0, .int .i64 0, .bool false, .bool false, .bool false]) (by simp [results, Try.results108, go_sem]) rfl ⟨rfl, ?_⟩
  repeat (first | refine Below.setCell ?_ (by simp <;> omega) _ | refine Below.alloc ?_ (by simp <;> omega) _)
  exact Below.refl _ _

/-- one cell appended in a region that draws its order -/
theorem step_cell {V : World} {ops : Array Oper} {o : Oper} {a : Act} {K : Act → World → Prop} {Q : Exit → Act → World → Prop} {E : Prop} (hgd : o.guard = none) (s x : Operand)
    (ho : o.op = .call { callee := .builtin .append, args := #[s, x], argTypes := #[30, 30] })
    {base n c : Nat} {A : Option Addr} {cs : List CellD} {z : CellD} (hs : a.eval s = .slice A n c) (H : Nat) (hH : V.heap.size = H) (hx : a.eval x = .slice (some ⟨H, 0, none⟩) 1 1)
    (hown : OwnC V base A n c cs) (hn : n ≤ 1000000000) (hbase : base ≤ V.heap.size)
    (h : ∀ A' c' w', OwnC w' base A' (n + 1) c' (cs ++ [z]) → Below base V w' → V.grownBy w' (Value.slice A n c).ownBlock → K (a.put o.dst (.slice A' (n + 1) c')) w') :
    if Region.wanted o (yielded ops a.tmps) = true then Oper.wp Try.prog o a (V.alloc (.cells #[.int .i64 z.r, .int .i64 z.fg, .int .i64 z.bg, .bool z.b, .bool z.u, .bool z.t] 37)) K Q else E := by
  have hw : Region.wanted o (yielded ops a.tmps) = true := by simp [Region.wanted, hgd]
  rw [if_pos hw]
  subst hH
  obtain ⟨i0, hi, hz0, hz1, hz2⟩ := info_parts cellInfo
  refine wp_append_own _ s x 30 ho base 37 i0 (.agg #[.int .i64 0, .int .i64 0, .int .i64 0, .bool false, .bool false, .bool false]) 6 32 Try.underlying30 hi hz0 hz1 hz2 rfl (by decide) _ _ _ hs (World.ownsRow.alloc hown _) ⟨V.heap.size, 0, none⟩ 1 1 [.int .i64 z.r, .int .i64 z.fg, .int .i64 z.bg, .bool z.b, .bool z.u, .bool z.t] hx rfl
    (World.news_of_block (cs := #[.int .i64 z.r, .int .i64 z.fg, .int .i64 z.bg, .bool z.b, .bool z.u, .bool z.t]) (t := 37) (fr := (0, 0)) (heap_alloc_new V _)) (by intro u hu; simp at hu; rcases hu with rfl | rfl | rfl | rfl | rfl | rfl <;> rfl) ?_ ?_ ?_ ?_
  · unfold maxLen; omega
  · omega
  · simp; omega
  · intro v' w' hown' hgrow _
    have e : (cs.map cellR).flatten ++ [.int .i64 z.r, .int .i64 z.fg, .int .i64 z.bg, .bool z.b, .bool z.u, .bool z.t] = ((cs ++ [z]).map cellR).flatten := by simp [cellR]
    rw [e] at hown'
    obtain ⟨A', c', rfl⟩ := own_shapeK hown'
    exact h A' c' w' hown' (((Below.refl _ _).alloc hbase _).grown hgrow (by simp; omega) (fun g hg => (World.ownsRow.lt hown g hg).1)) (grown_trans (World.grownBy_alloc V _ _) hgrow)

theorem new_next {y1 w1 : World} {b6 b4 base k c : Nat} {A : Option Addr} {cs : List CellD} {l6 l4 : Array Value} (h6 : BoxG y1 b6 l6) (h4 : BoxG y1 b4 l4) (ho : OwnC y1 base A k c cs) (l1 : b6 < base) (l2 : b4 < base) (hg : y1.grownBy w1 (Value.slice A k c).ownBlock) : BoxG w1 b6 l6 ∧ BoxG w1 b4 l4 :=
  ⟨h6.only (Only.grown (S := fun i => (Value.slice A k c).ownBlock = some i) hg (fun i h => h)) (ho.ne_ l1), h4.only (Only.grown (S := fun i => (Value.slice A k c).ownBlock = some i) hg (fun i h => h)) (ho.ne_ l2)⟩
def AnsN (B : Nat) (w : World) (gw gh : Int) (e : Ending) (w' : World) : Prop :=
  if sizeB gw gh then ∃ A c, e = .returned (.tuple #[.agg #[.int .i64 gw, .int .i64 gh, .slice A (gw * gh).toNat c], .bool true]) ∧ OwnC w' w.heap.size A (gw * gh).toNat c (List.replicate (gw * gh).toNat blankC) ∧ Below B w w'
  else e = .returned (.tuple #[.agg #[.int .i64 0, .int .i64 0, .slice none 0 0], .bool false]) ∧ Below B w w'
theorem sidesS {gw gh : Int} (h : sizeB gw gh = true) : ∃ W H : Nat, gw = (W : Int) ∧ gh = (H : Int) ∧ 1 ≤ W ∧ W ≤ 120 ∧ 1 ≤ H ∧ H ≤ 120 ∧ W * H ≤ 4000 ∧ (gw * gh).toNat = W * H := by
  obtain ⟨h1, h2, h3, h4, h5⟩ := of_sizeB h
  obtain ⟨W, rfl⟩ := Int.eq_ofNat_of_zero_le (show 0 ≤ gw by omega)
  obtain ⟨H, rfl⟩ := Int.eq_ofNat_of_zero_le (show 0 ≤ gh by omega)
  refine ⟨W, H, rfl, rfl, by omega, by omega, by omega, by omega, ?_, by rw [← Int.natCast_mul]; rfl⟩
  rw [← Int.natCast_mul] at h5; omega
end Go.Proofs.Ythlpchojlddnbaa.Gr

