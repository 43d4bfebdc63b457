/- The laws' helpers over a depot: a bound, a copy, a comparison of equals. -/
import Derived.Test.YtckiloacbanbmaaDoorSzDisk
import Derived.Test.YtckiloacbanbmaaDoorToDisk
import Derived.Test.YtckiloacbanbmaaDoorBoxBase
import Derived.Deep.Cut
namespace Go.Proofs.YtckiloacbanbmaaDoor.DOk
open Go.RowKit Go.Proofs.YtckiloacbanbmaaDoor.Bytes Go.Proofs.YtckiloacbanbmaaDoor.Rows_
set_option linter.unusedVariables false

set_option maxRecDepth 100000 in
set_option maxHeartbeats 1600000 in
theorem szDepot_any (room fuse next : Int) (F : Option Addr) (nf cf : Nat) (K : Option Addr) (nk ck : Nat) (T : Option Addr) (nt ct : Nat) (fs : List FileD) (ks : List LinkD) (ts : List TurnD) (gen seq size : Int) (stuck : Bool) (w : World) {P : Int → Prop} (left : Int)
    (HSz : ∀ W, Below w.heap.size w W → Calls Tryd.prog 9 #[.agg #[.int .i64 room, .int .i64 fuse, .int .i64 next, .slice F nf cf, .slice K nk ck, .slice T nt ct], .int .i64 left] W (Sz P W.heap.size W)) :
    Calls Tryd.prog 4 #[.agg #[.int .i64 room, .int .i64 fuse, .int .i64 next, .slice F nf cf, .slice K nk ck, .slice T nt ct, .int .i64 gen, .int .i64 seq, .int .i64 size, .bool stuck], .int .i64 left] w (Sz P w.heap.size w) := by
  have hb0 := Lib.hid ((Below.refl w.heap.size w).alloc (Nat.le_refl _) (.cells #[.int .i64 room, .int .i64 fuse, .int .i64 next, .slice F nf cf, .slice K nk ck, .slice T nt ct, .int .i64 gen, .int .i64 seq, .int .i64 size, .bool stuck] 28))
  have HS := Lib.hid HSz
  clear HSz
  go_enter Tryd.func4, Tryd.ntmps4
  go_wp2_with fail
  refine (HS.out _ hb0.out).mono ?_
  rintro e v1 ⟨r, rfl, hr, hb1⟩
  have HB1 := Lib.hid (hb0.out.trans (hb1.mono (by simp)))
  clear hb1 hb0
  rcases hr with rfl | ⟨hr0, hr1⟩
  · go_wp2_with fail
    go_ret
    exact sz_no HB1.out
  · have HR := Lib.hid hr1
    clear hr1
    go_wp2_with fail
    go_ret
    exact sz_yes hr0 HR.out HB1.out

set_option maxRecDepth 100000 in
set_option maxHeartbeats 12000000 in
theorem toDepot_any (room fuse next : Int) (F : Option Addr) (nf cf : Nat) (K : Option Addr) (nk ck : Nat) (T : Option Addr) (nt ct : Nat) (fs : List FileD) (ks : List LinkD) (ts : List TurnD) (gen seq size : Int) (stuck : Bool) (w : World)
    (HTo : ∀ W, Below w.heap.size w W → Calls Tryd.prog 13 #[.agg #[.int .i64 room, .int .i64 fuse, .int .i64 next, .slice F nf cf, .slice K nk ck, .slice T nt ct]] W fun e w' => ∃ F' cf' K' ck' T' ct' gs, e = .returned (.agg #[.int .i64 room, .int .i64 fuse, .int .i64 next, .slice F' nf cf', .slice K' nk ck', .slice T' nt ct']) ∧
        OwnF w' W.heap.size F' nf cf' gs ∧ gs.map keyF = fs.map keyF ∧ OwnBs w' W.heap.size gs ∧ OwnL w' W.heap.size K' nk ck' ks ∧ OwnT w' W.heap.size T' nt ct' ts ∧ Below W.heap.size W w') :
    Calls Tryd.prog 6 #[.agg #[.int .i64 room, .int .i64 fuse, .int .i64 next, .slice F nf cf, .slice K nk ck, .slice T nt ct, .int .i64 gen, .int .i64 seq, .int .i64 size, .bool stuck]] w fun e w' =>
      ∃ F' cf' K' ck' T' ct' gs, e = .returned (.agg #[.int .i64 room, .int .i64 fuse, .int .i64 next, .slice F' nf cf', .slice K' nk ck', .slice T' nt ct', .int .i64 gen, .int .i64 seq, .int .i64 size, .bool stuck]) ∧
        OwnF w' w.heap.size F' nf cf' gs ∧ gs.map keyF = fs.map keyF ∧ OwnBs w' w.heap.size gs ∧ OwnL w' w.heap.size K' nk ck' ks ∧ OwnT w' w.heap.size T' nt ct' ts ∧ Below w.heap.size w w' := by
  have hb0 := Lib.hid ((((Below.refl w.heap.size w).alloc (Nat.le_refl _) (.cells #[.int .i64 room, .int .i64 fuse, .int .i64 next, .slice F nf cf, .slice K nk ck, .slice T nt ct, .int .i64 gen, .int .i64 seq, .int .i64 size, .bool stuck] 28)).alloc (by simp) (.cells #[.int .i64 0, .int .i64 0, .int .i64 0, .slice none 0 0, .slice none 0 0, .slice none 0 0, .int .i64 0, .int .i64 0, .int .i64 0, .bool false] 37)).alloc (by simp; omega) (.cells #[.int .i64 0, .int .i64 0, .int .i64 0, .slice none 0 0, .slice none 0 0, .slice none 0 0, .int .i64 0, .int .i64 0, .int .i64 0, .bool false] 37))
  have HT := Lib.hid HTo
  clear HTo
  go_enter Tryd.func6, Tryd.ntmps6
  go_wp2_with fail
  refine (HT.out _ hb0.out).mono ?_
  rintro e v1 ⟨F', cf', K', ck', T', ct', gs, rfl, hoF, hkey, hoB, hoL, hoT, hb1⟩
  have hO0 : (((w.alloc (.cells #[.int .i64 room, .int .i64 fuse, .int .i64 next, .slice F nf cf, .slice K nk ck, .slice T nt ct, .int .i64 gen, .int .i64 seq, .int .i64 size, .bool stuck] 28)).alloc (.cells #[.int .i64 0, .int .i64 0, .int .i64 0, .slice none 0 0, .slice none 0 0, .slice none 0 0, .int .i64 0, .int .i64 0, .int .i64 0, .bool false] 37)).alloc (.cells #[.int .i64 0, .int .i64 0, .int .i64 0, .slice none 0 0, .slice none 0 0, .slice none 0 0, .int .i64 0, .int .i64 0, .int .i64 0, .bool false] 37)).heap[w.heap.size + 1 + 1]? = some (.cells #[.int .i64 0, .int .i64 0, .int .i64 0, .slice none 0 0, .slice none 0 0, .slice none 0 0, .int .i64 0, .int .i64 0, .int .i64 0, .bool false] 37 (0, 0)) := by
    have := heap_alloc_new ((w.alloc (.cells #[.int .i64 room, .int .i64 fuse, .int .i64 next, .slice F nf cf, .slice K nk ck, .slice T nt ct, .int .i64 gen, .int .i64 seq, .int .i64 size, .bool stuck] 28)).alloc (.cells #[.int .i64 0, .int .i64 0, .int .i64 0, .slice none 0 0, .slice none 0 0, .slice none 0 0, .int .i64 0, .int .i64 0, .int .i64 0, .bool false] 37)) (.cells #[.int .i64 0, .int .i64 0, .int .i64 0, .slice none 0 0, .slice none 0 0, .slice none 0 0, .int .i64 0, .int .i64 0, .int .i64 0, .bool false] 37)
    simpa using this
  have hR0 : (((w.alloc (.cells #[.int .i64 room, .int .i64 fuse, .int .i64 next, .slice F nf cf, .slice K nk ck, .slice T nt ct, .int .i64 gen, .int .i64 seq, .int .i64 size, .bool stuck] 28)).alloc (.cells #[.int .i64 0, .int .i64 0, .int .i64 0, .slice none 0 0, .slice none 0 0, .slice none 0 0, .int .i64 0, .int .i64 0, .int .i64 0, .bool false] 37)).alloc (.cells #[.int .i64 0, .int .i64 0, .int .i64 0, .slice none 0 0, .slice none 0 0, .slice none 0 0, .int .i64 0, .int .i64 0, .int .i64 0, .bool false] 37)).heap[w.heap.size + 1]? = some (.cells #[.int .i64 0, .int .i64 0, .int .i64 0, .slice none 0 0, .slice none 0 0, .slice none 0 0, .int .i64 0, .int .i64 0, .int .i64 0, .bool false] 37 (0, 0)) := by
    rw [Below.heap_alloc _ _ _ (by simp)]
    have := heap_alloc_new (w.alloc (.cells #[.int .i64 room, .int .i64 fuse, .int .i64 next, .slice F nf cf, .slice K nk ck, .slice T nt ct, .int .i64 gen, .int .i64 seq, .int .i64 size, .bool stuck] 28)) (.cells #[.int .i64 0, .int .i64 0, .int .i64 0, .slice none 0 0, .slice none 0 0, .slice none 0 0, .int .i64 0, .int .i64 0, .int .i64 0, .bool false] 37)
    simpa using this
  have hA0 : (((w.alloc (.cells #[.int .i64 room, .int .i64 fuse, .int .i64 next, .slice F nf cf, .slice K nk ck, .slice T nt ct, .int .i64 gen, .int .i64 seq, .int .i64 size, .bool stuck] 28)).alloc (.cells #[.int .i64 0, .int .i64 0, .int .i64 0, .slice none 0 0, .slice none 0 0, .slice none 0 0, .int .i64 0, .int .i64 0, .int .i64 0, .bool false] 37)).alloc (.cells #[.int .i64 0, .int .i64 0, .int .i64 0, .slice none 0 0, .slice none 0 0, .slice none 0 0, .int .i64 0, .int .i64 0, .int .i64 0, .bool false] 37)).heap[w.heap.size]? = some (.cells #[.int .i64 room, .int .i64 fuse, .int .i64 next, .slice F nf cf, .slice K nk ck, .slice T nt ct, .int .i64 gen, .int .i64 seq, .int .i64 size, .bool stuck] 28 (0, 0)) := by
    rw [Below.heap_alloc _ _ _ (by simp; omega), Below.heap_alloc _ _ _ (by simp)]
    exact heap_alloc_new w _
  have hO1 := (hb1.block (w.heap.size + 1 + 1) (by simp)).trans hO0
  have hR1 := (hb1.block (w.heap.size + 1) (by simp <;> omega)).trans hR0
  have hA1 := (hb1.block w.heap.size (by simp <;> omega)).trans hA0
  clear hO0 hR0 hA0
  have hz1 : w.heap.size + 1 + 1 < v1.heap.size := by have := hb1.size; simp at this; omega
  have co0 : v1.cell? ⟨w.heap.size + 1 + 1, 0, none⟩ = some (.int .i64 0) := by simp [World.cell?, hO1]
  have fo0 : v1.frozen? ⟨w.heap.size + 1 + 1, 0, none⟩ = false := by simp [World.frozen?, hO1]
  have co1 : v1.cell? ⟨w.heap.size + 1 + 1, 1, none⟩ = some (.int .i64 0) := by simp [World.cell?, hO1]
  have fo1 : v1.frozen? ⟨w.heap.size + 1 + 1, 1, none⟩ = false := by simp [World.frozen?, hO1]
  have co2 : v1.cell? ⟨w.heap.size + 1 + 1, 2, none⟩ = some (.int .i64 0) := by simp [World.cell?, hO1]
  have fo2 : v1.frozen? ⟨w.heap.size + 1 + 1, 2, none⟩ = false := by simp [World.frozen?, hO1]
  have co3 : v1.cell? ⟨w.heap.size + 1 + 1, 3, none⟩ = some (.slice none 0 0) := by simp [World.cell?, hO1]
  have fo3 : v1.frozen? ⟨w.heap.size + 1 + 1, 3, none⟩ = false := by simp [World.frozen?, hO1]
  have co4 : v1.cell? ⟨w.heap.size + 1 + 1, 4, none⟩ = some (.slice none 0 0) := by simp [World.cell?, hO1]
  have fo4 : v1.frozen? ⟨w.heap.size + 1 + 1, 4, none⟩ = false := by simp [World.frozen?, hO1]
  have co5 : v1.cell? ⟨w.heap.size + 1 + 1, 5, none⟩ = some (.slice none 0 0) := by simp [World.cell?, hO1]
  have fo5 : v1.frozen? ⟨w.heap.size + 1 + 1, 5, none⟩ = false := by simp [World.frozen?, hO1]
  have co6 : v1.cell? ⟨w.heap.size + 1 + 1, 6, none⟩ = some (.int .i64 0) := by simp [World.cell?, hO1]
  have fo6 : v1.frozen? ⟨w.heap.size + 1 + 1, 6, none⟩ = false := by simp [World.frozen?, hO1]
  have co7 : v1.cell? ⟨w.heap.size + 1 + 1, 7, none⟩ = some (.int .i64 0) := by simp [World.cell?, hO1]
  have fo7 : v1.frozen? ⟨w.heap.size + 1 + 1, 7, none⟩ = false := by simp [World.frozen?, hO1]
  have co8 : v1.cell? ⟨w.heap.size + 1 + 1, 8, none⟩ = some (.int .i64 0) := by simp [World.cell?, hO1]
  have fo8 : v1.frozen? ⟨w.heap.size + 1 + 1, 8, none⟩ = false := by simp [World.frozen?, hO1]
  have co9 : v1.cell? ⟨w.heap.size + 1 + 1, 9, none⟩ = some (.bool false) := by simp [World.cell?, hO1]
  have fo9 : v1.frozen? ⟨w.heap.size + 1 + 1, 9, none⟩ = false := by simp [World.frozen?, hO1]
  have ca6 : v1.cell? ⟨w.heap.size, 6, none⟩ = some (.int .i64 gen) := by simp [World.cell?, hA1]
  have ca7 : v1.cell? ⟨w.heap.size, 7, none⟩ = some (.int .i64 seq) := by simp [World.cell?, hA1]
  have ca8 : v1.cell? ⟨w.heap.size, 8, none⟩ = some (.int .i64 size) := by simp [World.cell?, hA1]
  have ca9 : v1.cell? ⟨w.heap.size, 9, none⟩ = some (.bool stuck) := by simp [World.cell?, hA1]
  have HOF := Lib.hid (own_moreK hoF (base' := w.heap.size + 3) (by simp))
  have HOB := Lib.hid (show OwnBs v1 (w.heap.size + 3) gs from ⟨fun f hf => (hoB.1 f hf).more (by simp), hoB.2⟩)
  have HOL := Lib.hid (own_moreK hoL (base' := w.heap.size + 3) (by simp))
  have HOT := Lib.hid (own_moreK hoT (base' := w.heap.size + 3) (by simp))
  have HKEY := Lib.hid hkey
  have HB1 := Lib.hid (hb0.out.trans (hb1.mono (by simp; omega)))
  obtain ⟨V, hV⟩ : ∃ V, V = (((((((((v1.setCell ⟨w.heap.size + 1 + 1, 0, none⟩ (.int .i64 room)).setCell ⟨w.heap.size + 1 + 1, 1, none⟩ (.int .i64 fuse)).setCell ⟨w.heap.size + 1 + 1, 2, none⟩ (.int .i64 next)).setCell ⟨w.heap.size + 1 + 1, 3, none⟩ (.slice F' nf cf')).setCell ⟨w.heap.size + 1 + 1, 4, none⟩ (.slice K' nk ck')).setCell ⟨w.heap.size + 1 + 1, 5, none⟩ (.slice T' nt ct')).setCell ⟨w.heap.size + 1 + 1, 6, none⟩ (.int .i64 gen)).setCell ⟨w.heap.size + 1 + 1, 7, none⟩ (.int .i64 seq)).setCell ⟨w.heap.size + 1 + 1, 8, none⟩ (.int .i64 size)).setCell ⟨w.heap.size + 1 + 1, 9, none⟩ (.bool stuck) := ⟨_, rfl⟩
  have hOV : V.heap[w.heap.size + 1 + 1]? = some (.cells #[.int .i64 room, .int .i64 fuse, .int .i64 next, .slice F' nf cf', .slice K' nk ck', .slice T' nt ct', .int .i64 gen, .int .i64 seq, .int .i64 size, .bool stuck] 37 (0, 0)) := by rw [hV]; simp [World.setCell, Array.getElem?_modify, hO1]
  have hRV : V.heap[w.heap.size + 1]? = some (.cells #[.int .i64 0, .int .i64 0, .int .i64 0, .slice none 0 0, .slice none 0 0, .slice none 0 0, .int .i64 0, .int .i64 0, .int .i64 0, .bool false] 37 (0, 0)) := by rw [hV]; simp [World.setCell, Array.getElem?_modify, hR1]
  have HFV := Lib.hid (show OwnF V (w.heap.size + 3) F' nf cf' gs by
    rw [hV]
    repeat refine own_setK ?_ _ _ _ (by omega)
    exact HOF.out)
  have HSV := Lib.hid (show OwnBs V (w.heap.size + 3) gs by
    rw [hV]
    refine ⟨fun f hf => ?_, HOB.out.2⟩
    repeat refine own_setK ?_ _ _ _ (by omega)
    exact HOB.out.1 f hf)
  have HLV := Lib.hid (show OwnL V (w.heap.size + 3) K' nk ck' ks by
    rw [hV]
    repeat refine own_setK ?_ _ _ _ (by omega)
    exact HOL.out)
  have HTV := Lib.hid (show OwnT V (w.heap.size + 3) T' nt ct' ts by
    rw [hV]
    repeat refine own_setK ?_ _ _ _ (by omega)
    exact HOT.out)
  have HBV := Lib.hid (show Below w.heap.size w V by
    rw [hV]
    repeat refine Below.setCell ?_ (by show w.heap.size ≤ w.heap.size + 1 + 1; omega) _
    exact HB1.out)
  have HV := Lib.hid hV.symm
  clear hoF hkey hoB hoL hoT hb1 hb0 hV hO1 hR1 hA1 HOF HOB HOL HOT HB1
  go_upto_region 7 with fail
  rw [HV.out]
  clear co0 fo0 co1 fo1 co2 fo2 co3 fo3 co4 fo4 co5 fo5 co6 fo6 co7 fo7 co8 fo8 co9 fo9 ca6 ca7 ca8 ca9 HV
  have q0 : V.cell? ⟨w.heap.size + 1 + 1, 0, none⟩ = some (.int .i64 room) := by simp [World.cell?, hOV]
  have q1 : V.cell? ⟨w.heap.size + 1 + 1, 1, none⟩ = some (.int .i64 fuse) := by simp [World.cell?, hOV]
  have q2 : V.cell? ⟨w.heap.size + 1 + 1, 2, none⟩ = some (.int .i64 next) := by simp [World.cell?, hOV]
  have q3 : V.cell? ⟨w.heap.size + 1 + 1, 3, none⟩ = some (.slice F' nf cf') := by simp [World.cell?, hOV]
  have q4 : V.cell? ⟨w.heap.size + 1 + 1, 4, none⟩ = some (.slice K' nk ck') := by simp [World.cell?, hOV]
  have q5 : V.cell? ⟨w.heap.size + 1 + 1, 5, none⟩ = some (.slice T' nt ct') := by simp [World.cell?, hOV]
  have q6 : V.cell? ⟨w.heap.size + 1 + 1, 6, none⟩ = some (.int .i64 gen) := by simp [World.cell?, hOV]
  have q7 : V.cell? ⟨w.heap.size + 1 + 1, 7, none⟩ = some (.int .i64 seq) := by simp [World.cell?, hOV]
  have q8 : V.cell? ⟨w.heap.size + 1 + 1, 8, none⟩ = some (.int .i64 size) := by simp [World.cell?, hOV]
  have q9 : V.cell? ⟨w.heap.size + 1 + 1, 9, none⟩ = some (.bool stuck) := by simp [World.cell?, hOV]
  have y0 : V.cell? ⟨w.heap.size + 1, 0, none⟩ = some (.int .i64 0) := by simp [World.cell?, hRV]
  have z0 : V.frozen? ⟨w.heap.size + 1, 0, none⟩ = false := by simp [World.frozen?, hRV]
  have y1 : V.cell? ⟨w.heap.size + 1, 1, none⟩ = some (.int .i64 0) := by simp [World.cell?, hRV]
  have z1 : V.frozen? ⟨w.heap.size + 1, 1, none⟩ = false := by simp [World.frozen?, hRV]
  have y2 : V.cell? ⟨w.heap.size + 1, 2, none⟩ = some (.int .i64 0) := by simp [World.cell?, hRV]
  have z2 : V.frozen? ⟨w.heap.size + 1, 2, none⟩ = false := by simp [World.frozen?, hRV]
  have y3 : V.cell? ⟨w.heap.size + 1, 3, none⟩ = some (.slice none 0 0) := by simp [World.cell?, hRV]
  have z3 : V.frozen? ⟨w.heap.size + 1, 3, none⟩ = false := by simp [World.frozen?, hRV]
  have y4 : V.cell? ⟨w.heap.size + 1, 4, none⟩ = some (.slice none 0 0) := by simp [World.cell?, hRV]
  have z4 : V.frozen? ⟨w.heap.size + 1, 4, none⟩ = false := by simp [World.frozen?, hRV]
  have y5 : V.cell? ⟨w.heap.size + 1, 5, none⟩ = some (.slice none 0 0) := by simp [World.cell?, hRV]
  have z5 : V.frozen? ⟨w.heap.size + 1, 5, none⟩ = false := by simp [World.frozen?, hRV]
  have y6 : V.cell? ⟨w.heap.size + 1, 6, none⟩ = some (.int .i64 0) := by simp [World.cell?, hRV]
  have z6 : V.frozen? ⟨w.heap.size + 1, 6, none⟩ = false := by simp [World.frozen?, hRV]
  have y7 : V.cell? ⟨w.heap.size + 1, 7, none⟩ = some (.int .i64 0) := by simp [World.cell?, hRV]
  have z7 : V.frozen? ⟨w.heap.size + 1, 7, none⟩ = false := by simp [World.frozen?, hRV]
  have y8 : V.cell? ⟨w.heap.size + 1, 8, none⟩ = some (.int .i64 0) := by simp [World.cell?, hRV]
  have z8 : V.frozen? ⟨w.heap.size + 1, 8, none⟩ = false := by simp [World.frozen?, hRV]
  have y9 : V.cell? ⟨w.heap.size + 1, 9, none⟩ = some (.bool false) := by simp [World.cell?, hRV]
  have z9 : V.frozen? ⟨w.heap.size + 1, 9, none⟩ = false := by simp [World.frozen?, hRV]
  clear hOV
  have HRV := Lib.hid hRV
  clear hRV
  go_wp2_with fail
  refine bodyPost_ret (v := .agg #[.int .i64 room, .int .i64 fuse, .int .i64 next, .slice F' nf cf', .slice K' nk ck', .slice T' nt ct', .int .i64 gen, .int .i64 seq, .int .i64 size, .bool stuck]) (by simp [results, Tryd.results6, go_sem, y0, y1, y2, y3, y4, y5, y6, y7, y8, y9]) rfl ⟨F', cf', K', ck', T', ct', gs, rfl, ?_, HKEY.out, ?_, ?_, ?_, ?_⟩
  · refine own_moreK (base := w.heap.size + 3) ?_ (by omega)
    repeat refine own_setK ?_ _ _ _ (by omega)
    exact HFV.out
  · refine ⟨fun f hf => ?_, HSV.out.2⟩
    refine own_moreK (base := w.heap.size + 3) ?_ (by omega)
    repeat refine own_setK ?_ _ _ _ (by omega)
    exact HSV.out.1 f hf
  · refine own_moreK (base := w.heap.size + 3) ?_ (by omega)
    repeat refine own_setK ?_ _ _ _ (by omega)
    exact HLV.out
  · refine own_moreK (base := w.heap.size + 3) ?_ (by omega)
    repeat refine own_setK ?_ _ _ _ (by omega)
    exact HTV.out
  · repeat refine Below.setCell ?_ (by show w.heap.size ≤ w.heap.size + 1; omega) _
    exact HBV.out

set_option maxRecDepth 100000 in
set_option maxHeartbeats 3200000 in
theorem eqDepot_yes (room fuse next : Int) (F G : Option Addr) (nf cf cg : Nat) (K L : Option Addr) (nk ck cl : Nat) (T U : Option Addr) (nt ct cu : Nat) (gen seq size : Int) (stuck : Bool) (w : World)
    (HEq : ∀ W, Below w.heap.size w W → Calls Tryd.prog 17 #[.agg #[.int .i64 room, .int .i64 fuse, .int .i64 next, .slice F nf cf, .slice K nk ck, .slice T nt ct], .agg #[.int .i64 room, .int .i64 fuse, .int .i64 next, .slice G nf cg, .slice L nk cl, .slice U nt cu]] W fun e w' => e = .returned (.bool true) ∧ Below W.heap.size W w') :
    Calls Tryd.prog 8 #[.agg #[.int .i64 room, .int .i64 fuse, .int .i64 next, .slice F nf cf, .slice K nk ck, .slice T nt ct, .int .i64 gen, .int .i64 seq, .int .i64 size, .bool stuck], .agg #[.int .i64 room, .int .i64 fuse, .int .i64 next, .slice G nf cg, .slice L nk cl, .slice U nt cu, .int .i64 gen, .int .i64 seq, .int .i64 size, .bool stuck]] w fun e w' => e = .returned (.bool true) ∧ Below w.heap.size w w' := by
  have hb0 := Lib.hid (((Below.refl w.heap.size w).alloc (Nat.le_refl _) (.cells #[.int .i64 room, .int .i64 fuse, .int .i64 next, .slice F nf cf, .slice K nk ck, .slice T nt ct, .int .i64 gen, .int .i64 seq, .int .i64 size, .bool stuck] 37)).alloc (by simp) (.cells #[.int .i64 room, .int .i64 fuse, .int .i64 next, .slice G nf cg, .slice L nk cl, .slice U nt cu, .int .i64 gen, .int .i64 seq, .int .i64 size, .bool stuck] 37))
  have HE := Lib.hid HEq
  clear HEq
  go_enter Tryd.func8, Tryd.ntmps8
  go_wp2_with fail
  refine (HE.out _ hb0.out).mono ?_
  rintro e v1 ⟨rfl, hb1⟩
  obtain ⟨hc1, hf1⟩ := bcell hb1
  have s1 : w.heap.size < w.heap.size + 1 + 1 := by omega
  have s2 : w.heap.size + 1 < w.heap.size + 1 + 1 := by omega
  have hz1 : w.heap.size + 1 < v1.heap.size := by have := hb1.size; simp at this; omega
  have hz1a : w.heap.size < v1.heap.size := by omega
  have HB1 := Lib.hid (hb0.out.trans (hb1.mono (by simp; omega)))
  have hg : (gen != gen) = false := by simp
  have hs : (seq != seq) = false := by simp
  have hz : (size != size) = false := by simp
  have hk : (stuck != stuck) = false := by simp
  clear hb1 hb0
  go_wp2_with fail
  go_ret
  exact ⟨rfl, HB1.out⟩
end Go.Proofs.YtckiloacbanbmaaDoor.DOk
