/- The program's helpers over files and links: used room, filesOk, keptOk. -/
import Derived.Test.YtfkdfabbpebljaaGreatIds
import Derived.Test.YtfkdfabbpebljaaGreatNameOk
import Derived.Deep.DeepCutAuto
import Derived.Deep.RegionWith
import Derived.IntWalk
namespace Go.Proofs.YtfkdfabbpebljaaGreat.DOk
open Go.RowKit Go.Proofs.YtfkdfabbpebljaaGreat.Bytes Go.Proofs.YtfkdfabbpebljaaGreat.Rows_
open Go.Proofs.YtfkdfabbpebljaaGreat.Made (madeB nb)
set_option linter.unusedVariables false

set_option maxRecDepth 100000 in
set_option maxHeartbeats 1600000 in
theorem usedRoom_any (room fuse next : Int) (F : Option Addr) (nf cf : Nat) (K : Option Addr) (nk ck : Nat) (T : Option Addr) (nt ct : Nat) (fs : List FileD) (w : World) (hr : RdF w w.heap.size F fs) (hl : fs.length = nf) (hn : nf ≤ 1099511627776) (hu : usedD fs ≤ 1099511627776) :
    Calls Tryz.prog 82 #[.agg #[.int .i64 room, .int .i64 fuse, .int .i64 next, .slice F nf cf, .slice K nk ck, .slice T nt ct]] w fun e w' => e = .returned (.int .i64 (usedD fs : Nat)) ∧ Below w.heap.size w w' := by
  have HL := Lib.hid hl
  have HR := Lib.hid hr
  have hut := Lib.hid (used_take fs)
  clear hl hr
  go_enter Tryz.func82, Tryz.ntmps82
  go_wp2_with fail
  go_loopw [3, 9] (fun u i wr => ∃ k : Nat, k ≤ nf ∧ i = .int .i64 k ∧ u = .int .i64 (usedD (fs.take k) : Nat) ∧ Below w.heap.size w wr) (fun _ i _ => nf - (intOf i).toNat)
  case atStart => exact ⟨0, Nat.zero_le _, rfl, rfl, (Below.refl _ _).alloc (Nat.le_refl _) _⟩
  case round =>
    obtain ⟨k, hk, rfl, rfl, hb⟩ := hrel
    have hz : w.heap.size ≤ wr.heap.size := hb.size
    by_cases hlt : k < nf
    · have hlt' : k < fs.length := by rw [HL.out]; exact hlt
      obtain ⟨b, o, rfl, hB, hc0, hc1, hc2⟩ := (HR.out.below (Nat.le_refl _) hb).at_ hlt'
      have HB := Lib.hid hb
      have HS := Lib.hid (used_snoc fs k hlt')
      have hS : usedD (fs.take k) + fs[k].n ≤ 1099511627776 := by have := hut.out (k + 1); rw [HS.out] at this; omega
      generalize fs[k].id = x0 at *
      generalize fs[k].A = x1 at *
      generalize fs[k].n = x2 at *
      generalize fs[k].c = x3 at *
      generalize fs[k].safe = x4 at *
      clear hb
      go_wp2_with fail
      exact ⟨⟨k + 1, by omega, by go_num, by rw [HS.out]; go_num, HB.out.alloc hz _⟩, by simp [intOf]; omega⟩
    · obtain rfl : nf = k := by omega
      have e : fs.take nf = fs := List.take_of_length_le (by rw [HL.out]; exact Nat.le_refl _)
      rw [e]
      go_wp2_with fail
      go_ret
      exact ⟨rfl, hb⟩

/-- the id of the last file among the first k, 0 where there is none -/
def lastId (fs : List FileD) (k : Nat) : Int := if h : 0 < k ∧ k ≤ fs.length then (fs[k - 1]'(by omega)).id else 0
def FileAtI (next : Int) (fs : List FileD) (j : Nat) (h : j < fs.length) : Prop := lastId fs j < fs[j].id ∧ fs[j].id < next ∧ 0 ≤ fs[j].safe ∧ fs[j].safe ≤ fs[j].n
theorem lastId_zero (fs : List FileD) : lastId fs 0 = 0 := by unfold lastId; rw [dif_neg (by omega)]
theorem lastId_succ (fs : List FileD) (k : Nat) (h : k < fs.length) : lastId fs (k + 1) = fs[k].id := by unfold lastId; rw [dif_pos (by omega)]; rfl
def FilesOkI (room next : Int) (fs : List FileD) : Prop := fs.length ≤ 10 ∧ (∀ j h, FileAtI next fs j h) ∧ ((usedD fs : Nat) : Int) ≤ room
def Ans' (P : Prop) (B : Nat) (w : World) (e : Ending) (w' : World) : Prop := ∃ b, e = .returned (.bool b) ∧ (b = true ↔ P) ∧ Below B w w'
theorem ansI_no {P : Prop} {B : Nat} {w w' : World} (h : ¬ P) (hb : Below B w w') : Ans' P B w (.returned (.bool false)) w' := ⟨false, rfl, ⟨(fun e => by cases e), (fun p => absurd p h)⟩, hb⟩
theorem ansI_yes {P : Prop} {B : Nat} {w w' : World} (h : P) (hb : Below B w w') : Ans' P B w (.returned (.bool true)) w' := ⟨true, rfl, ⟨fun _ => h, fun _ => rfl⟩, hb⟩
theorem upto' {n : Nat} {P : ∀ j, j < n → Prop} {k : Nat} (h : ∀ j (hj : j < n), j < k → P j hj) (hk : ∀ hk : k < n, P k hk) : ∀ j (hj : j < n), j < k + 1 → P j hj := by
  intro j hj hlt
  rcases Nat.lt_or_ge j k with h1 | h1
  · exact h j hj h1
  · have : j = k := by omega
    subst this; exact hk hj

set_option maxRecDepth 100000 in
set_option maxHeartbeats 3200000 in
theorem filesOk_any (room fuse next : Int) (F : Option Addr) (nf cf : Nat) (K : Option Addr) (nk ck : Nat) (T : Option Addr) (nt ct : Nat) (fs : List FileD) (w : World) (hr : RdF w w.heap.size F fs) (hl : fs.length = nf) (hn : nf ≤ 1099511627776) (hu : usedD fs ≤ 1099511627776) :
    Calls Tryz.prog 61 #[.agg #[.int .i64 room, .int .i64 fuse, .int .i64 next, .slice F nf cf, .slice K nk ck, .slice T nt ct]] w (Ans' (FilesOkI room next fs) w.heap.size w) := by
  have HL := Lib.hid hl
  have HR := Lib.hid hr
  have hU := Lib.hid (fun W (h : RdF W W.heap.size F fs) => usedRoom_any room fuse next F nf cf K nk ck T nt ct fs W h hl hn hu)
  have hb0 := Lib.hid ((Below.refl w.heap.size w).alloc (Nat.le_refl _) (.cells #[.int .i64 room, .int .i64 fuse, .int .i64 next, .slice F nf cf, .slice K nk ck, .slice T nt ct] 36))
  have hbS := Lib.hid (show (w.alloc (.cells #[.int .i64 room, .int .i64 fuse, .int .i64 next, .slice F nf cf, .slice K nk ck, .slice T nt ct] 36)).heap.size = w.heap.size + 1 by simp)
  have hbC := Lib.hid (show ∀ j v, #[Value.int .i64 room, .int .i64 fuse, .int .i64 next, .slice F nf cf, .slice K nk ck, .slice T nt ct][j]? = some v → (w.alloc (.cells #[.int .i64 room, .int .i64 fuse, .int .i64 next, .slice F nf cf, .slice K nk ck, .slice T nt ct] 36)).cell? ⟨w.heap.size, j, none⟩ = some v from fun j v h => by rw [World.cell?_alloc_at _ _ _ _ rfl]; exact h)
  have hbR := Lib.hid (Below.refl (w.heap.size + 1) (w.alloc (.cells #[.int .i64 room, .int .i64 fuse, .int .i64 next, .slice F nf cf, .slice K nk ck, .slice T nt ct] 36)))
  by_cases h10 : nf ≤ 10
  · have HBadF := Lib.hid (show ∀ k h, ¬ FileAtI next fs k h → ¬ FilesOkI room next fs from fun k h hn h' => hn (h'.2.1 k h))
    have HBadU := Lib.hid (show ¬ ((usedD fs : Nat) : Int) ≤ room → ¬ FilesOkI room next fs from fun hn h' => hn h'.2.2)
    have HAll := Lib.hid (show (∀ j h, FileAtI next fs j h) → ((usedD fs : Nat) : Int) ≤ room → FilesOkI room next fs from fun a b => ⟨by omega, a, b⟩)
    clear hl hr
    generalize usedD fs = u at *
    go_enter Tryz.func61, Tryz.ntmps61
    go_wp2_with fail
    generalize w.alloc (.cells #[.int .i64 room, .int .i64 fuse, .int .i64 next, .slice F nf cf, .slice K nk ck, .slice T nt ct] 36) = W0 at *
    go_loopw [3, 13] (fun l i wr => ∃ k : Nat, k ≤ nf ∧ i = .int .i64 k ∧ l = .int .i64 (lastId fs k) ∧ Below (w.heap.size + 1) W0 wr ∧ Hid (∀ j (hj : j < fs.length), j < k → FileAtI next fs j hj)) (fun _ i _ => nf - (intOf i).toNat)
    case atStart => exact ⟨0, Nat.zero_le _, rfl, by rw [lastId_zero], hbR.out, Lib.hid (fun j _ h => absurd h (by omega))⟩
    case round =>
      obtain ⟨k, hk, rfl, rfl, hb, HA⟩ := hrel
      have hz : w.heap.size + 1 ≤ wr.heap.size := by have := hb.size; rw [hbS.out] at this; omega
      have hzr : w.heap.size < wr.heap.size := by omega
      have q2 : wr.cell? ⟨w.heap.size, 2, none⟩ = some (.int .i64 next) := (hb.cell (p := ⟨w.heap.size, 2, none⟩) (by show w.heap.size < w.heap.size + 1; omega)).trans (hbC.out 2 _ rfl)
      by_cases hlt : k < nf
      · have hlt' : k < fs.length := by rw [HL.out]; exact hlt
        obtain ⟨b, o, rfl, hB, hc0, hc1, hc2⟩ := (HR.out.below (Nat.le_refl _) (hb0.out.trans (hb.mono (by omega)))).at_ hlt'
        have HFA := Lib.hid (show FileAtI next fs k hlt' ↔ (lastId fs k < fs[k].id ∧ fs[k].id < next ∧ 0 ≤ fs[k].safe ∧ fs[k].safe ≤ fs[k].n) from Iff.rfl)
        have HBad := Lib.hid (HBadF.out k hlt')
        have HLS := Lib.hid (lastId_succ fs k hlt')
        have HB := Lib.hid hb
        have HBf := Lib.hid (fun (o : Obj) => hb0.out.trans ((HB.out.alloc hz o).mono (by omega)))
        clear hb
        generalize fs[k].id = x0 at *
        generalize fs[k].A = x1 at *
        generalize fs[k].n = x2 at *
        generalize fs[k].c = x3 at *
        generalize fs[k].safe = x4 at *
        generalize hl0 : lastId fs k = y at *
        clear hl0
        go_wp2_with fail
        all_goals first
          | (go_ret; exact ansI_no (HBad.out (fun h => by have := HFA.out.1 h; omega)) (HBf.out _))
          | exact ⟨⟨k + 1, by omega, by go_num, by rw [HLS.out], HB.out.alloc hz _, Lib.hid (upto' HA.out (fun h => HFA.out.2 ⟨by omega, by omega, by omega, by omega⟩))⟩, by simp [intOf]; omega⟩
      · obtain rfl : nf = k := by omega
        have HAF := Lib.hid (show ∀ j h, FileAtI next fs j h from fun j h => HA.out j h (by have := HL.out; omega))
        have q0 : wr.cell? ⟨w.heap.size, 0, none⟩ = some (.int .i64 room) := (hb.cell (p := ⟨w.heap.size, 0, none⟩) (by show w.heap.size < w.heap.size + 1; omega)).trans (hbC.out 0 _ rfl)
        have q1 : wr.cell? ⟨w.heap.size, 1, none⟩ = some (.int .i64 fuse) := (hb.cell (p := ⟨w.heap.size, 1, none⟩) (by show w.heap.size < w.heap.size + 1; omega)).trans (hbC.out 1 _ rfl)
        have q3 : wr.cell? ⟨w.heap.size, 3, none⟩ = some (.slice F nf cf) := (hb.cell (p := ⟨w.heap.size, 3, none⟩) (by show w.heap.size < w.heap.size + 1; omega)).trans (hbC.out 3 _ rfl)
        have q4 : wr.cell? ⟨w.heap.size, 4, none⟩ = some (.slice K nk ck) := (hb.cell (p := ⟨w.heap.size, 4, none⟩) (by show w.heap.size < w.heap.size + 1; omega)).trans (hbC.out 4 _ rfl)
        have q5 : wr.cell? ⟨w.heap.size, 5, none⟩ = some (.slice T nt ct) := (hb.cell (p := ⟨w.heap.size, 5, none⟩) (by show w.heap.size < w.heap.size + 1; omega)).trans (hbC.out 5 _ rfl)
        have HB := Lib.hid hb
        have HRW := Lib.hid ((HR.out.below (Nat.le_refl _) (hb0.out.trans (hb.mono (by omega)))).more (Nat.le_of_lt hzr))
        clear hb hlt hk
        have hcase : (decide ((u : Int) ≤ room) = true ∧ (u : Int) ≤ room) ∨ (decide ((u : Int) ≤ room) = false ∧ ¬ (u : Int) ≤ room) := by
          by_cases h : (u : Int) ≤ room
          · exact .inl ⟨decide_eq_true h, h⟩
          · exact .inr ⟨decide_eq_false h, h⟩
        rcases hcase with ⟨hud, hur⟩ | ⟨hud, hur⟩
        all_goals
          have HUR := Lib.hid hur
          clear hur
          go_wp2_with fail
          go_region_with ((go_at_call 82; refine (hU.out _ ?_).mono ?_; exact HRW.out; rintro e v1 ⟨rfl, hb1'⟩; have hb1 : Below wr.heap.size _ v1 := undrew hb1'; have r0 : v1.cell? ⟨w.heap.size, 0, none⟩ = some (.int .i64 room) := (hb1.cell (p := ⟨w.heap.size, 0, none⟩) hzr).trans q0; clear hb1'))
          all_goals
            have HBF := Lib.hid (hb0.out.trans ((HB.out.trans (hb1.mono (by omega))).mono (by omega)))
            clear hb1 r0
            go_wp2_with fail
            go_ret
            first
              | exact ansI_yes (HAll.out HAF.out HUR.out) HBF.out
              | exact ansI_no (HBadU.out HUR.out) HBF.out
  · have HN := Lib.hid (show ¬ FilesOkI room next fs from fun h => h10 (by have := h.1; omega))
    have h10' : (10 : Int) < nf := by omega
    clear h10 hl hr
    go_enter Tryz.func61, Tryz.ntmps61
    go_wp2_with fail
    go_ret
    exact ansI_no HN.out hb0.out
end Go.Proofs.YtfkdfabbpebljaaGreat.DOk
