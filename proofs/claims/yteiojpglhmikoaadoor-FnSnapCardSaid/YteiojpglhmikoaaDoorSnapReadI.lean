/- Contract of the reading of a snapshot, in the program. -/
import Derived.Test.YteiojpglhmikoaaDoorCloneB
import Derived.Test.YteiojpglhmikoaaDoorDecode
import Derived.Test.YteiojpglhmikoaaDoorAsHit
import Derived.Deep.RegionHeld3
namespace Go.Proofs.YteiojpglhmikoaaDoor.Snap
open Go.RowKit Go.Proofs.YteiojpglhmikoaaDoor.Bytes Go.Proofs.YteiojpglhmikoaaDoor.Var Go.Proofs.YteiojpglhmikoaaDoor.Crc Go.Proofs.YteiojpglhmikoaaDoor.Frame Go.Proofs.YteiojpglhmikoaaDoor.As
set_option linter.unusedVariables false

theorem one_cell {w : World} {R : Nat} {v : Value} {T : TypeId} (h : w.heap[R]? = some (.cells #[v] T (0, 0))) : w.cell? ⟨R, 0, none⟩ = some v := by simp [World.cell?, h]
theorem one_free {w : World} {R : Nat} {v : Value} {T : TypeId} (h : w.heap[R]? = some (.cells #[v] T (0, 0))) : w.frozen? ⟨R, 0, none⟩ = false := by simp [World.frozen?, h]
theorem one_put {w : World} {R : Nat} {v : Value} {T : TypeId} (h : w.heap[R]? = some (.cells #[v] T (0, 0))) (x : Value) : (w.setCell ⟨R, 0, none⟩ x).cell? ⟨R, 0, none⟩ = some x := by simp [World.setCell, World.cell?, Array.getElem?_modify, h]
theorem decodeSnap_any (A : Option Addr) (n c : Nat) (zs : List Int) (w : World) (hr : Rd w w.heap.size A zs) (hg : Rng zs) (hl : zs.length = n) (hn : n ≤ 1099511627776) (hnc : n ≤ c) :
    Calls Tryd.prog 24 #[.slice A n c] w (DecE zs w) := by
  rcases h : isS zs with _ | _
  · refine (dec_1 A n c zs w hr hg hl hn hnc h).mono ?_
    rintro e w' ⟨rfl, hb⟩
    exact decE_bad (k := 1) (snC_1 h) (by omega) hb
  · exact dec_in A n c zs w hr hg hl hn hnc h

set_option maxRecDepth 100000 in
set_option maxHeartbeats 1600000 in
theorem impl_bad (A : Option Addr) (n c : Nat) (zs : List Int) (w : World) (hr : Rd w w.heap.size A zs) (hg : Rng zs) (hl : zs.length = n) (hn : n ≤ 1099511627776) (hnc : n ≤ c) (he : ErrT w) (h : snC zs ≠ 0) :
    Calls Tryd.prog 7 #[.slice A n c] w fun e w' => e = .returned (.tuple #[.int .i64 0, .int .i64 0, .slice none 0 0, .int .i64 (snC zs : Nat)]) ∧ Below w.heap.size w w' := by
  have HC := Lib.hid (decodeSnap_any A n c zs w hr hg hl hn hnc)
  have HE := Lib.hid he
  have H := Lib.hid h
  obtain ⟨k, hk⟩ : ∃ k, k = snC zs := ⟨_, rfl⟩
  rw [← hk]
  have HK := Lib.hid hk
  clear hr hg hl he h hk
  go_enter Tryd.func7, Tryd.ntmps7
  go_wp2_with fail
  refine HC.out.mono ?_
  rintro e w1 ⟨he, _, hb1⟩
  rw [he H.out, ← HK.out]
  unfold badR
  clear he
  have hs1 := hb1.size
  have hW1 : Below w1.heap.size w1 (w1.alloc (.cells #[.int .i64 0, .int .i64 0, .slice none 0 0] 47)) := (Below.refl _ _).alloc (Nat.le_refl _) _
  have hW2 : Below w1.heap.size w1 ((w1.alloc (.cells #[.int .i64 0, .int .i64 0, .slice none 0 0] 47)).alloc (.cells #[.int .i64 0] 53)) := hW1.alloc (by simp) _
  have hbW := hb1.trans (hW2.mono hs1)
  have hT := heap_alloc_new (w1.alloc (.cells #[.int .i64 0, .int .i64 0, .slice none 0 0] 47)) (.cells #[.int .i64 0] 53)
  simp only [World.size_alloc] at hT
  have HBW := Lib.hid hbW
  have HT := Lib.hid hT
  have HEW := Lib.hid (HE.out.below hbW)
  clear hb1 hW1 hW2 hbW hT
  go_wp2_with fail
  refine (as_hit ⟨w1.heap.size + 1, 0, none⟩ k 0 _ HEW.out (one_cell HT.out) (one_free HT.out)).mono ?_
  rintro e w2 ⟨rfl, v, hbv, rfl⟩
  have hv := (hbv.block _ (by simp)).trans HT.out
  have hq := fun nq => one_put (w := v.drewN nq) hv (.int .i64 k)
  have hq0 := one_put hv (.int .i64 k)
  have HB2 := Lib.hid ((HBW.out.trans (hbv.mono HBW.out.size)).setCell (p := ⟨w1.heap.size + 1, 0, none⟩) (by simp; omega) (.int .i64 k))
  clear hbv hv
  go_wp2_with fail
  go_quiet (fail)
  go_wp2_with fail
  refine bodyPost_ret (v := .tuple #[.int .i64 0, .int .i64 0, .slice none 0 0, .int .i64 k]) (by simp [results, Tryd.results7, go_sem]) rfl ⟨rfl, below_drewN HB2.out _⟩

set_option maxRecDepth 100000 in
set_option maxHeartbeats 1600000 in
theorem impl_good (A : Option Addr) (n c : Nat) (zs : List Int) (w : World) (hr : Rd w w.heap.size A zs) (hg : Rng zs) (hl : zs.length = n) (hn : n ≤ 1099511627776) (hnc : n ≤ c) (h : snC zs = 0) :
    Calls Tryd.prog 7 #[.slice A n c] w fun e w' => ∃ A' n' c', e = .returned (.tuple #[.int .i64 (snG zs), .int .i64 (snS zs), .slice A' n' c', .int .i64 0]) ∧ Own w' w.heap.size A' n' c' (snD zs) ∧ Below w.heap.size w w' := by
  have HC := Lib.hid (decodeSnap_any A n c zs w hr hg hl hn hnc)
  have H := Lib.hid h
  have hld : (snD zs).length ≤ n := by rw [(sn_good h).2.2, ← hl]; unfold sData; rw [List.length_drop]; omega
  obtain ⟨G, hG⟩ : ∃ G, G = snG zs := ⟨_, rfl⟩
  obtain ⟨S, hS⟩ : ∃ S, S = snS zs := ⟨_, rfl⟩
  obtain ⟨dat, hD⟩ : ∃ d, d = snD zs := ⟨_, rfl⟩
  rw [← hG, ← hS, ← hD]
  rw [← hD] at hld
  have HG := Lib.hid hG
  have HS := Lib.hid hS
  have HD := Lib.hid hD
  clear hr hg hl h hG hS hD
  go_enter Tryd.func7, Tryd.ntmps7
  go_wp2_with fail
  refine HC.out.mono ?_
  rintro e w1 ⟨_, hgood, hb1⟩
  obtain ⟨A1, n1, c1, rfl, hr1, hl1, hA1⟩ := hgood H.out
  rw [← HG.out, ← HS.out]
  rw [← HD.out] at hr1 hl1
  have hs1 := hb1.size
  have HR1 := Lib.hid hr1
  have HL1 := Lib.hid hl1
  have HA1 := Lib.hid hA1
  have HB1 := Lib.hid hb1
  have hn1 : n1 ≤ 1099511627776 := by omega
  clear hr1 hA1 hb1 hgood hl1 hld
  go_wp2_with fail
  refine (as_nil _ _).mono ?_
  rintro e w2 ⟨rfl, rfl⟩
  go_wp2_with fail
  obtain ⟨W, hW⟩ : ∃ W, W = (w1.alloc (.cells #[.int .i64 G, .int .i64 S, .slice A1 n1 c1] 47)).alloc (.cells #[.int .i64 0] 53) := ⟨_, rfl⟩
  have hbW : Below w1.heap.size w1 W := by rw [hW]; exact ((Below.refl _ _).alloc (Nat.le_refl _) _).alloc (by simp) _
  have hWc : (W.cell? ⟨w1.heap.size, 0, none⟩ = some (.int .i64 G) ∧ W.cell? ⟨w1.heap.size, 1, none⟩ = some (.int .i64 S) ∧ W.cell? ⟨w1.heap.size, 2, none⟩ = some (.slice A1 n1 c1)) := by
    have hh : W.heap[w1.heap.size]? = some (.cells #[.int .i64 G, .int .i64 S, .slice A1 n1 c1] 47 (0, 0)) := by
      rw [hW, heap_alloc_old _ _ (by simp)]; exact heap_alloc_new w1 _
    exact (blk3 hh).1
  have hWz : w1.heap.size < W.heap.size := by rw [hW]; simp; omega
  rw [← hW]
  have hdr : Below W.heap.size W W.drew := (Below.refl _ _).drew
  have HWB := Lib.hid (HB1.out.trans (hbW.mono hs1))
  have HRW := Lib.hid (((HR1.out.below (Nat.le_refl _) (hbW.mono hs1)).more HWB.out.size).below (Nat.le_refl _) hdr)
  clear hW hbW hdr
  obtain ⟨q0, q1, q2⟩ := hWc
  go_region_held3 (fun w' => w'.cell? ⟨w1.heap.size, 0, none⟩ = some (.int .i64 G) ∧ w'.cell? ⟨w1.heap.size, 1, none⟩ = some (.int .i64 S) ∧ w'.cell? ⟨w1.heap.size, 2, none⟩ = some (.slice A1 n1 c1))
    (first
      | exact HB3.out
      | go_keep)
    ((first
      | (go_at_call 26; refine (clone_any A1 n1 c1 dat W.drew HA1.out HRW.out HL1.out hn1).mono ?_; rintro e v3 ⟨A3, c3, rfl, ho3, hb3⟩; have HO3 := Lib.hid ho3; have HX3 := Lib.hid hb3; have HB3 := Lib.hid (show v3.cell? ⟨w1.heap.size, 0, none⟩ = some (.int .i64 G) ∧ v3.cell? ⟨w1.heap.size, 1, none⟩ = some (.int .i64 S) ∧ v3.cell? ⟨w1.heap.size, 2, none⟩ = some (.slice A1 n1 c1) from ⟨(hb3.cell (p := ⟨w1.heap.size, 0, none⟩) hWz).trans q0, (hb3.cell (p := ⟨w1.heap.size, 1, none⟩) hWz).trans q1, (hb3.cell (p := ⟨w1.heap.size, 2, none⟩) hWz).trans q2⟩); clear ho3 hb3)))
  go_wp2_with fail
  refine bodyPost_ret (v := .tuple #[.int .i64 G, .int .i64 S, .slice A3 n1 c3, .int .i64 0]) (by simp [results, Tryd.results7, go_sem]) rfl ⟨A3, n1, c3, rfl, HO3.out.more HWB.out.size, HWB.out.trans (((Below.refl W.heap.size W).drew.trans HX3.out).mono HWB.out.size)⟩

theorem impl_SnapRead_any (A : Option Addr) (n c : Nat) (zs : List Int) (w : World) (hr : Rd w w.heap.size A zs) (hg : Rng zs) (hl : zs.length = n) (hn : n ≤ 1099511627776) (hnc : n ≤ c) (he : ErrT w) :
    Calls Tryd.prog 7 #[.slice A n c] w fun e w' => ∃ A' n' c', e = .returned (.tuple #[.int .i64 (snG zs), .int .i64 (snS zs), .slice A' n' c', .int .i64 (snC zs : Nat)]) ∧ Own w' w.heap.size A' n' c' (snD zs) ∧ Below w.heap.size w w' := by
  by_cases h : snC zs = 0
  · rw [h]
    exact impl_good A n c zs w hr hg hl hn hnc h
  · obtain ⟨e1, e2, e3⟩ := sn_bad h
    rw [e1, e2, e3]
    refine (impl_bad A n c zs w hr hg hl hn hnc he h).mono ?_
    rintro e w' ⟨rfl, hb⟩
    exact ⟨none, 0, 0, rfl, own_nil _ _, hb⟩
end Go.Proofs.YteiojpglhmikoaaDoor.Snap

