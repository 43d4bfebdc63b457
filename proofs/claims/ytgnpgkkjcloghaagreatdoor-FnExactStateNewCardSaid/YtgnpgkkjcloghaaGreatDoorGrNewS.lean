/- GridNew in the model, for seats without the program's: what XGrSE, XGrNewB and XGrNew say of it (never beside them). -/
import Derived.Test.YtgnpgkkjcloghaaGreatDoorKm1
import Derived.Laws.CopyRow
import Derived.Laws.IdiomCopy
import Derived.Lib.SliceRun
import Derived.Test.YtgnpgkkjcloghaaGreatDoorKm15
import Derived.Deep.RegionLaw
import Derived.Deep.DrawnRows
import Derived.Laws.AppendOwn
import Derived.Deep.AppendLies
namespace Go.Proofs.YtgnpgkkjcloghaaGreatDoor.Gr
open Go.RowKit Go.Proofs.YtgnpgkkjcloghaaGreatDoor.Bytes Go.Proofs.YtgnpgkkjcloghaaGreatDoor.Rows_ Go.Proofs.YtgnpgkkjcloghaaGreatDoor.RowK
set_option linter.unusedVariables false
def blankC : CellD := ⟨32, 0, 0, false, false, false⟩
end Go.Proofs.YtgnpgkkjcloghaaGreatDoor.Gr
namespace Go.Proofs.YtgnpgkkjcloghaaGreatDoor.Gr
open Go.RowKit Go.Proofs.YtgnpgkkjcloghaaGreatDoor.Bytes Go.Proofs.YtgnpgkkjcloghaaGreatDoor.Rows_ Go.Proofs.YtgnpgkkjcloghaaGreatDoor.RowK
set_option linter.unusedVariables false
end Go.Proofs.YtgnpgkkjcloghaaGreatDoor.Gr


namespace Go.Proofs.YtgnpgkkjcloghaaGreatDoor.Gr
open Go.RowKit Go.Proofs.YtgnpgkkjcloghaaGreatDoor.Bytes Go.Proofs.YtgnpgkkjcloghaaGreatDoor.Rows_ Go.Proofs.YtgnpgkkjcloghaaGreatDoor.RowK
set_option linter.unusedVariables false
attribute [local go_sem ↓] Go.wp_at_zero Go.wp_at_succ
/-- a block that holds a grid by value -/
def BoxG (w : World) (b : Nat) (cs : Array Value) : Prop := w.heap[b]? = some (.cells cs 46 (0, 0))
theorem BoxG.lt {w : World} {b : Nat} {cs : Array Value} (h : BoxG w b cs) : b < w.heap.size := (Array.getElem?_eq_some_iff.1 h).1
theorem BoxG.cell {w : World} {b : Nat} {cs : Array Value} (h : BoxG w b cs) (j : Nat) : w.cell? ⟨b, j, none⟩ = cs[j]? := by unfold BoxG at h; simp [World.cell?, h]
theorem BoxG.free {w : World} {b : Nat} {cs : Array Value} (h : BoxG w b cs) (j : Nat) : w.frozen? ⟨b, j, none⟩ = false := by unfold BoxG at h; simp [World.frozen?, h]
theorem BoxG.below {w w' : World} {b B : Nat} {cs : Array Value} (h : BoxG w b cs) (hb : Below B w w') (hB : b < B) : BoxG w' b cs := by unfold BoxG at h ⊢; rw [hb.block b hB]; exact h
theorem BoxG.only {S : Nat → Prop} {w w' : World} {b : Nat} {cs : Array Value} (h : BoxG w b cs) (on : Only S w w') (hn : ¬ S b) : BoxG w' b cs := by
  have hl := h.lt
  unfold BoxG at h ⊢; rw [on.block b hl hn]; exact h
theorem BoxG.other {w : World} {b b' j : Nat} {cs : Array Value} {v : Value} (h : BoxG w b cs) (hne : b ≠ b') : BoxG (w.setCell ⟨b', j, none⟩ v) b cs := by
  unfold BoxG at h ⊢; rw [Below.heap_setCell _ _ _ _ hne]; exact h
theorem BoxG.set2 {w : World} {b : Nat} {x0 x1 x2 : Value} (h : BoxG w b #[x0, x1, x2]) (v : Value) : BoxG (w.setCell ⟨b, 2, none⟩ v) b #[x0, x1, v] := by
  unfold BoxG at h ⊢; simp [World.setCell, Array.getElem?_modify, h]
theorem BoxG.drew {w : World} {b : Nat} {cs : Array Value} (h : BoxG w b cs) : BoxG w.drew b cs := h
theorem BoxG.new (w : World) (cs : Array Value) : BoxG (w.alloc (.cells cs 46)) w.heap.size cs := heap_alloc_new w _
theorem OwnC.ne_ {w : World} {base : Nat} {A : Option Addr} {n c : Nat} {cs : List CellD} (h : OwnC w base A n c cs) {b : Nat} (hb : b < base) : ¬ (Value.slice A n c).ownBlock = some b := fun e => by have := (h.blk b e).1; omega
theorem OwnC.setBox {w : World} {base : Nat} {A : Option Addr} {n c : Nat} {cs : List CellD} (h : OwnC w base A n c cs) (b j : Nat) (v : Value) (hb : b < base) : OwnC (w.setCell ⟨b, j, none⟩ v) base A n c cs := own_setK h b j v hb
theorem ownC_nil (w : World) (base : Nat) : OwnC w base none 0 0 [] := ⟨rfl, .inl ⟨rfl, rfl⟩⟩

set_option maxRecDepth 100000 in
theorem blank_any (w : World) : Calls Tryz.prog 43 #[] w fun e w' => e = .returned (.agg #[.int .i64 32, .int .i64 0, .int .i64 0, .bool false, .bool false, .bool false]) ∧ Below w.heap.size w w' := by
  go_enter Tryz.func43, Tryz.ntmps43
  go_wp2_with fail
  refine bodyPost_ret (v := .agg #[.int .i64 32, .int .i64 0, .int .i64 0, .bool false, .bool false, .bool false]) (by simp [results, Tryz.results43, go_sem]) rfl ⟨rfl, ?_⟩
  repeat (first | refine Below.setCell ?_ (by simp <;> omega) _ | refine Below.alloc ?_ (by simp <;> omega) _)
  exact Below.refl _ _

/-- one cell appended in a region that draws its order -/
theorem step_cell {V : World} {ops : Array Oper} {o : Oper} {a : Act} {K : Act → World → Prop} {Q : Exit → Act → World → Prop} {E : Prop} (hgd : o.guard = none) (s x : Operand)
    (ho : o.op = .call { callee := .builtin .append, args := #[s, x], argTypes := #[44, 44] })
    {base n c : Nat} {A : Option Addr} {cs : List CellD} {z : CellD} (hs : a.eval s = .slice A n c) (H : Nat) (hH : V.heap.size = H) (hx : a.eval x = .slice (some ⟨H, 0, none⟩) 1 1)
    (hown : OwnC V base A n c cs) (hn : n ≤ 1000000000) (hbase : base ≤ V.heap.size)
    (h : ∀ A' c' w', OwnC w' base A' (n + 1) c' (cs ++ [z]) → Below base V w' → V.grownBy w' (Value.slice A n c).ownBlock → K (a.put o.dst (.slice A' (n + 1) c')) w') :
    if Region.wanted o (yielded ops a.tmps) = true then Oper.wp Tryz.prog o a (V.alloc (.cells #[.int .i64 z.r, .int .i64 z.fg, .int .i64 z.bg, .bool z.b, .bool z.u, .bool z.t] 86)) K Q else E := by
  have hw : Region.wanted o (yielded ops a.tmps) = true := by simp [Region.wanted, hgd]
  rw [if_pos hw]
  subst hH
  obtain ⟨i0, hi, hz0, hz1, hz2⟩ := info_parts cellInfo
  refine wp_append_own _ s x 44 ho base 86 i0 (.agg #[.int .i64 0, .int .i64 0, .int .i64 0, .bool false, .bool false, .bool false]) 6 32 Tryz.underlying44 hi hz0 hz1 hz2 rfl (by decide) _ _ _ hs (World.ownsRow.alloc hown _) ⟨V.heap.size, 0, none⟩ 1 1 [.int .i64 z.r, .int .i64 z.fg, .int .i64 z.bg, .bool z.b, .bool z.u, .bool z.t] hx rfl
    (World.news_of_block (cs := #[.int .i64 z.r, .int .i64 z.fg, .int .i64 z.bg, .bool z.b, .bool z.u, .bool z.t]) (t := 86) (fr := (0, 0)) (heap_alloc_new V _)) (by intro u hu; simp at hu; rcases hu with rfl | rfl | rfl | rfl | rfl | rfl <;> rfl) ?_ ?_ ?_ ?_
  · unfold maxLen; omega
  · omega
  · simp; omega
  · intro v' w' hown' hgrow _
    have e : (cs.map cellR).flatten ++ [.int .i64 z.r, .int .i64 z.fg, .int .i64 z.bg, .bool z.b, .bool z.u, .bool z.t] = ((cs ++ [z]).map cellR).flatten := by simp [cellR]
    rw [e] at hown'
    obtain ⟨A', c', rfl⟩ := own_shapeK hown'
    exact h A' c' w' hown' (((Below.refl _ _).alloc hbase _).grown hgrow (by simp; omega) (fun g hg => (World.ownsRow.lt hown g hg).1)) (grown_trans (World.grownBy_alloc V _ _) hgrow)

theorem new_next {y1 w1 : World} {b6 b4 base k c : Nat} {A : Option Addr} {cs : List CellD} {l6 l4 : Array Value} (h6 : BoxG y1 b6 l6) (h4 : BoxG y1 b4 l4) (ho : OwnC y1 base A k c cs) (l1 : b6 < base) (l2 : b4 < base) (hg : y1.grownBy w1 (Value.slice A k c).ownBlock) : BoxG w1 b6 l6 ∧ BoxG w1 b4 l4 :=
  ⟨h6.only (Only.grown (S := fun i => (Value.slice A k c).ownBlock = some i) hg (fun i h => h)) (ho.ne_ l1), h4.only (Only.grown (S := fun i => (Value.slice A k c).ownBlock = some i) hg (fun i h => h)) (ho.ne_ l2)⟩
def AnsN (B : Nat) (w : World) (gw gh : Int) (e : Ending) (w' : World) : Prop :=
  if sizeB gw gh then ∃ A c, e = .returned (.tuple #[.agg #[.int .i64 gw, .int .i64 gh, .slice A (gw * gh).toNat c], .bool true]) ∧ OwnC w' w.heap.size A (gw * gh).toNat c (List.replicate (gw * gh).toNat blankC) ∧ Below B w w'
  else e = .returned (.tuple #[.agg #[.int .i64 0, .int .i64 0, .slice none 0 0], .bool false]) ∧ Below B w w'
theorem sidesS {gw gh : Int} (h : sizeB gw gh = true) : ∃ W H : Nat, gw = (W : Int) ∧ gh = (H : Int) ∧ 1 ≤ W ∧ W ≤ 120 ∧ 1 ≤ H ∧ H ≤ 120 ∧ W * H ≤ 4000 ∧ (gw * gh).toNat = W * H := by
  obtain ⟨h1, h2, h3, h4, h5⟩ := of_sizeB h
  obtain ⟨W, rfl⟩ := Int.eq_ofNat_of_zero_le (show 0 ≤ gw by omega)
  obtain ⟨H, rfl⟩ := Int.eq_ofNat_of_zero_le (show 0 ≤ gh by omega)
  refine ⟨W, H, rfl, rfl, by omega, by omega, by omega, by omega, ?_, by rw [← Int.natCast_mul]; rfl⟩
  rw [← Int.natCast_mul] at h5; omega
end Go.Proofs.YtgnpgkkjcloghaaGreatDoor.Gr


namespace Go.Proofs.YtgnpgkkjcloghaaGreatDoor.Gr
open Go.RowKit Go.Proofs.YtgnpgkkjcloghaaGreatDoor.Bytes Go.Proofs.YtgnpgkkjcloghaaGreatDoor.Rows_ Go.Proofs.YtgnpgkkjcloghaaGreatDoor.RowK
set_option linter.unusedVariables false
attribute [local go_sem ↓] Go.wp_at_zero Go.wp_at_succ
set_option maxRecDepth 100000 in
set_option maxHeartbeats 3200000 in
theorem spec_GridNew_no (gw gh : Int) (w : World) (hs : sizeB gw gh = false) : Calls Tryz.prog 17 #[.int .i64 gw, .int .i64 gh] w (AnsN w.heap.size w gw gh) := by
  have HA := Lib.hid (show ∀ e w', AnsN w.heap.size w gw gh e w' = (e = .returned (.tuple #[.agg #[.int .i64 0, .int .i64 0, .slice none 0 0], .bool false]) ∧ Below w.heap.size w w') from fun e w' => by unfold AnsN; rw [hs]; rfl)
  have HS := Lib.hid hs
  clear hs
  by_cases h1 : 1 ≤ gw
  · by_cases h2 : gw ≤ 120
    · by_cases h3 : 1 ≤ gh
      · by_cases h4 : gh ≤ 120
        · obtain ⟨m1, m2⟩ := mul_bd h1 h2 h3 h4
          have h5 : 4000 < gw * gh := by
            rcases Int.lt_or_le 4000 (gw * gh) with h | h
            · exact h
            · have := sizeB_t ⟨h1, h2, h3, h4, h⟩; rw [HS.out] at this; cases this
          go_enter Tryz.func17, Tryz.ntmps17
          go_wp2_with fail
          refine bodyPost_ret (v := .tuple #[.agg #[.int .i64 0, .int .i64 0, .slice none 0 0], .bool false]) (by simp [results, Tryz.results17, go_sem]) rfl ?_
          rw [HA.out]
          exact ⟨rfl, by repeat (first | refine Below.setCell ?_ (by simp <;> omega) _ | refine Below.alloc ?_ (by simp <;> omega) _); exact Below.refl _ _⟩
        · go_enter Tryz.func17, Tryz.ntmps17
          go_wp2_with fail
          refine bodyPost_ret (v := .tuple #[.agg #[.int .i64 0, .int .i64 0, .slice none 0 0], .bool false]) (by simp [results, Tryz.results17, go_sem]) rfl ?_
          rw [HA.out]
          exact ⟨rfl, by repeat (first | refine Below.setCell ?_ (by simp <;> omega) _ | refine Below.alloc ?_ (by simp <;> omega) _); exact Below.refl _ _⟩
      · go_enter Tryz.func17, Tryz.ntmps17
        go_wp2_with fail
        refine bodyPost_ret (v := .tuple #[.agg #[.int .i64 0, .int .i64 0, .slice none 0 0], .bool false]) (by simp [results, Tryz.results17, go_sem]) rfl ?_
        rw [HA.out]
        exact ⟨rfl, by repeat (first | refine Below.setCell ?_ (by simp <;> omega) _ | refine Below.alloc ?_ (by simp <;> omega) _); exact Below.refl _ _⟩
    · go_enter Tryz.func17, Tryz.ntmps17
      go_wp2_with fail
      refine bodyPost_ret (v := .tuple #[.agg #[.int .i64 0, .int .i64 0, .slice none 0 0], .bool false]) (by simp [results, Tryz.results17, go_sem]) rfl ?_
      rw [HA.out]
      exact ⟨rfl, by repeat (first | refine Below.setCell ?_ (by simp <;> omega) _ | refine Below.alloc ?_ (by simp <;> omega) _); exact Below.refl _ _⟩
  · go_enter Tryz.func17, Tryz.ntmps17
    go_wp2_with fail
    refine bodyPost_ret (v := .tuple #[.agg #[.int .i64 0, .int .i64 0, .slice none 0 0], .bool false]) (by simp [results, Tryz.results17, go_sem]) rfl ?_
    rw [HA.out]
    exact ⟨rfl, by repeat (first | refine Below.setCell ?_ (by simp <;> omega) _ | refine Below.alloc ?_ (by simp <;> omega) _); exact Below.refl _ _⟩

set_option maxRecDepth 100000 in
set_option maxHeartbeats 6400000 in
theorem spec_GridNew_any (gw gh : Int) (w : World) : Calls Tryz.prog 17 #[.int .i64 gw, .int .i64 gh] w (AnsN w.heap.size w gw gh) := by
  cases hs : sizeB gw gh
  · exact spec_GridNew_no gw gh w hs
  · obtain ⟨W, H, rfl, rfl, w1, w2, w3, w4, w5, hN⟩ := sidesS hs
    obtain ⟨N, hN2⟩ : ∃ N, N = W * H := ⟨_, rfl⟩
    have HA := Lib.hid (show ∀ e w', AnsN w.heap.size w (W : Int) (H : Int) e w' = (∃ A c, e = .returned (.tuple #[.agg #[.int .i64 (W : Int), .int .i64 (H : Int), .slice A N c], .bool true]) ∧ OwnC w' w.heap.size A N c (List.replicate N blankC) ∧ Below w.heap.size w w') from fun e w' => by unfold AnsN; rw [hs, hN, hN2]; rfl)
    have hNn : N ≤ 4000 := by omega
    have e1 : IntKind.i64.wrap ((W : Int) * (H : Int)) = (N : Int) := by rw [← Int.natCast_mul, ← hN2]; exact IntWalk.i64_in _ (by omega)
    have m1 : ¬ ((N : Int) > 4000) := by omega
    have m2 : decide ((N : Int) > 4000) = false := by simp; omega
    have X6 := Lib.hid (BoxG.new (w.alloc (.cells #[.int .i64 0, .int .i64 0, .slice none 0 0] 46)) #[.int .i64 (W : Int), .int .i64 (H : Int), .slice none 0 0])
    have X4 := Lib.hid ((BoxG.new w #[.int .i64 0, .int .i64 0, .slice none 0 0]).below ((Below.refl _ _).alloc (Nat.le_refl _) (.cells #[.int .i64 (W : Int), .int .i64 (H : Int), .slice none 0 0] 46)) (by simp))
    have hb0 := Lib.hid (((Below.refl w.heap.size w).alloc (Nat.le_refl _) (.cells #[.int .i64 0, .int .i64 0, .slice none 0 0] 46)).alloc (by simp) (.cells #[.int .i64 (W : Int), .int .i64 (H : Int), .slice none 0 0] 46))
    clear hs hN hN2 w5
    go_enter Tryz.func17, Tryz.ntmps17
    go_wp2_with fail
    go_loopw [7] (fun i wr => ∃ (k : Nat) (A : Option Addr) (c : Nat), k ≤ N ∧ i = .int .i64 k ∧ BoxG wr (w.heap.size + 1) #[.int .i64 (W : Int), .int .i64 (H : Int), .slice A k c] ∧ BoxG wr w.heap.size #[.int .i64 0, .int .i64 0, .slice none 0 0] ∧ OwnC wr (w.heap.size + 2) A k c (List.replicate k blankC) ∧ Below w.heap.size w wr) (fun i _ => N - (intOf i).toNat)
    case atStart => exact ⟨0, none, 0, Nat.zero_le _, rfl, by simpa using X6.out, X4.out, ownC_nil _ _, hb0.out⟩
    case round =>
      clear X6 X4 hb0
      obtain ⟨k, A, c, hk, rfl, hx6, hx4, ho, hb⟩ := hrel
      have l6 := hx6.lt
      have l4 := hx4.lt
      by_cases hlt : k < N
      · have HX6 := Lib.hid hx6
        have HX4 := Lib.hid hx4
        have HO := Lib.hid ho
        have HB := Lib.hid hb
        have q2 : wr.cell? ⟨w.heap.size + 1, 2, none⟩ = some (.slice A k c) := hx6.cell 2
        have L1 := Lib.hid (show w.heap.size + 1 < w.heap.size + 2 by omega)
        have L2 := Lib.hid (show w.heap.size < w.heap.size + 2 by omega)
        have L3 := Lib.hid (show w.heap.size ≤ w.heap.size + 2 by omega)
        clear hx6 hx4 ho hb
        go_wp2_with fail
        go_region_law (first
          | (go_simp; go_at_call 43; (with_reducible refine (blank_any _).mono ?_); rintro e y1 ⟨rfl, hy'⟩; have hy : Below wr.heap.size wr y1 := undrew hy'; have HOy := Lib.hid (HO.out.below (Nat.le_refl _) hy); have hx := HX6.out.below hy l6; have q2' : y1.cell? ⟨w.heap.size + 1, 2, none⟩ = some (.slice A k c) := hx.cell 2; have HX6y := Lib.hid hx; have HX4y := Lib.hid (HX4.out.below hy l4); have HBy := Lib.hid (HB.out.trans (hy.mono (by omega))); have hyl : w.heap.size + 1 < y1.heap.size := Nat.lt_of_lt_of_le l6 hy.size; have HZy := Lib.hid (show w.heap.size + 2 ≤ y1.heap.size from hyl); clear hx hy hy')
          | (refine step_cell (z := blankC) rfl _ _ rfl rfl _ rfl rfl HOy.out (by omega) HZy.out ?_; intro A' c' w1 ho1 hb1 hg1; have hxx := new_next HX6y.out HX4y.out HOy.out L1.out L2.out hg1; have r2 : w1.cell? ⟨w.heap.size + 1, 2, none⟩ = some (.slice A k c) := hxx.1.cell 2; have f2 := hxx.1.free 2; have HXX := Lib.hid hxx; have HOz := Lib.hid ho1; have HBz := Lib.hid (HBy.out.trans (hb1.mono L3.out)); clear hxx ho1 hb1 hg1))
        all_goals
          go_wp2_with fail
          refine ⟨⟨k + 1, A', c', by omega, by go_num, ?_, ?_, ?_, ?_⟩, by simp [intOf]; omega⟩
          · exact HXX.out.1.set2 _
          · exact HXX.out.2.other (by omega)
          · rw [List.replicate_succ']; exact HOz.out.setBox _ _ _ (by omega)
          · exact HBz.out.setCell (by simp) _
      · obtain rfl : N = k := by omega
        have HO := Lib.hid ho
        have HB := Lib.hid hb
        have p0 := hx6.cell 0
        have p1 := hx6.cell 1
        have p2 := hx6.cell 2
        have q0 := hx4.cell 0
        have q1 := hx4.cell 1
        have q2 := hx4.cell 2
        have f0 := hx4.free 0
        have f1 := hx4.free 1
        have f2 := hx4.free 2
        clear hx6 hx4 ho hb
        go_wp2_with fail
        refine bodyPost_ret (v := .tuple #[.agg #[.int .i64 (W : Int), .int .i64 (H : Int), .slice A N c], .bool true]) (by simp [results, Tryz.results17, go_sem, q0, q1, q2]) rfl ?_
        rw [HA.out]
        refine ⟨_, _, rfl, ?_, ?_⟩
        · exact ((((HO.out.setBox w.heap.size 0 _ (by omega)).setBox w.heap.size 1 _ (by omega)).setBox w.heap.size 2 _ (by omega))).more (by omega)
        · exact ((HB.out.setCell (by simp) _).setCell (by simp) _).setCell (by simp) _
end Go.Proofs.YtgnpgkkjcloghaaGreatDoor.Gr



