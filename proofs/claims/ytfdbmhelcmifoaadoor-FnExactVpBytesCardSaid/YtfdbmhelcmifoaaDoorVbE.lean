/- The laws' helpers over slices of acts: a comparison of equals, marks, what holds them. -/
import Derived.Test.YtfdbmhelcmifoaaDoorVbK
import Derived.Deep.RegionWith
import Derived.Deep.DrawnRows
namespace Go.Proofs.YtfdbmhelcmifoaaDoor.Vp
open Go.RowKit Go.Proofs.YtfdbmhelcmifoaaDoor.Bytes Go.Proofs.YtfdbmhelcmifoaaDoor.DOk Go.Proofs.YtfdbmhelcmifoaaDoor.Rune Go.Proofs.YtfdbmhelcmifoaaDoor.RowK Go.Proofs.YtfdbmhelcmifoaaDoor.Gr
set_option linter.unusedVariables false
attribute [local go_sem ↓] Go.wp_at_zero Go.wp_at_succ
theorem act_at {w : World} {base f n c : Nat} {ds : List ActD} (h : OwnF4 w base (some ⟨f, 0, none⟩) n c ds) {k : Nat} {d : ActD} (hd : ds[k]? = some d) (j : Nat) (v : Value) (hv : (actR d)[j]? = some v) (hj : j < 4) : w.cell? ⟨f, k * 4 + j, none⟩ = some v := by
  have hk := (List.getElem?_eq_some_iff.1 hd).1
  have hl := ownF4_len h
  rw [World.ownsRow.cellAt (h := h) (k * 4 + j) (by omega)]
  exact flat_at 4 (ds.map actR) (by intro r hr; obtain ⟨d, _, rfl⟩ := List.mem_map.1 hr; rfl) k (actR d) (by simp [hd]) j v hv
theorem act_cells {w : World} {base f n c : Nat} {ds : List ActD} (h : OwnF4 w base (some ⟨f, 0, none⟩) n c ds) {k : Nat} {d : ActD} (hd : ds[k]? = some d) :
    w.cell? ⟨f, k * 4, none⟩ = some (.int .i64 d.k) ∧ w.cell? ⟨f, k * 4 + 1, none⟩ = some (.int .i64 d.r) ∧ w.cell? ⟨f, k * 4 + 2, none⟩ = some (.bool d.q) ∧ w.cell? ⟨f, k * 4 + 3, none⟩ = some (.slice d.A d.n d.c) :=
  ⟨act_at h hd 0 _ rfl (by omega), act_at h hd 1 _ rfl (by omega), act_at h hd 2 _ rfl (by omega), act_at h hd 3 _ rfl (by omega)⟩
theorem act_addr {w : World} {base : Nat} {F : Option Addr} {n c : Nat} {ds : List ActD} (h : OwnF4 w base F n c ds) (hn : 0 < n) : ∃ f, F = some ⟨f, 0, none⟩ ∧ f < w.heap.size := by
  obtain ⟨f, rfl⟩ := own_addr h hn
  exact ⟨f, rfl, (World.ownsRow.lt h f rfl).2⟩
set_option maxRecDepth 100000 in
set_option maxHeartbeats 3200000 in
theorem eqActS_yes (F F' : Option Addr) (n c c' : Nat) (ds ds' : List ActD) (b b' : Nat) (w : World) (h : OwnF4 w b F n c ds) (hA : OwnAs w b ds) (h' : OwnF4 w b' F' n c' ds') (hA' : OwnAs w b' ds') (hm : ds.map ActD.a = ds'.map ActD.a) (hs : ∀ d ∈ ds, d.zs.length ≤ 8) (hn : n ≤ 2097152) :
    Calls Tryd.prog 24 #[.slice F n c, .slice F' n c'] w fun e w' => e = .returned (.bool true) ∧ Below w.heap.size w w' := by
  have H := Lib.hid h
  have HA := Lib.hid hA
  have H' := Lib.hid h'
  have HA' := Lib.hid hA'
  have HM := Lib.hid hm
  have HS := Lib.hid hs
  have hnn : ((n : Int) != (n : Int)) = false := by simp
  clear h hA h' hA' hm hs
  go_enter Tryd.func24, Tryd.ntmps24
  go_wp2_with fail
  go_loopw [5] (fun i wr => ∃ k : Nat, k ≤ n ∧ i = .int .i64 k ∧ Below w.heap.size w wr) (fun i _ => n - (intOf i).toNat)
  case atStart => exact ⟨0, Nat.zero_le _, rfl, Below.refl _ _⟩
  case round =>
    obtain ⟨k, hk, rfl, hb⟩ := hrel
    have HB := Lib.hid hb
    clear hb
    by_cases hlt : k < n
    · obtain ⟨f, rfl, hf⟩ := act_addr H.out (by omega)
      obtain ⟨f', rfl, hf'⟩ := act_addr H'.out (by omega)
      have hl := ownF4_len H.out
      have hl' := ownF4_len H'.out
      obtain ⟨d, hd⟩ : ∃ d, ds[k]? = some d := ⟨_, List.getElem?_eq_getElem (by omega)⟩
      obtain ⟨d', hd'⟩ : ∃ d', ds'[k]? = some d' := ⟨_, List.getElem?_eq_getElem (by omega)⟩
      have ha : d.a = d'.a := by
        have h1 := congrArg (fun l => l[k]?) HM.out
        simp [hd, hd'] at h1; exact h1
      have hmem := List.mem_of_getElem? hd
      have hmem' := List.mem_of_getElem? hd'
      have hI := HA.out.own d hmem
      have hI' := HA'.out.own d' hmem'
      have h8 := HS.out d hmem
      obtain ⟨dk, dr, dq, dA, dn, dc, dz⟩ := d
      obtain ⟨ek, er, eq_, eA, en, ec, ez⟩ := d'
      simp only [ActD.a, AS.mk.injEq] at ha
      obtain ⟨rfl, rfl, rfl, rfl⟩ := ha
      have e1 := hI.len
      have e2 := hI'.len
      simp only at e1 e2 h8
      obtain rfl : en = dn := by omega
      have hc := act_cells (own_belowK H.out (Nat.le_refl _) HB.out) hd
      have hc' := act_cells (own_belowK H'.out (Nat.le_refl _) HB.out) hd'
      obtain ⟨x0, x1, x2, x3⟩ := hc
      obtain ⟨y0, y1, y2, y3⟩ := hc'
      simp only at x0 x1 x2 x3 y0 y1 y2 y3
      have HE := Lib.hid (fun (W : World) (hW : Below w.heap.size w W) => eqAct_yes dk dr dq dA eA en dc ec dz W (hI.below (Nat.le_refl _) hW).rd (hI'.below (Nat.le_refl _) hW).rd e1 (by omega))
      have HBD := Lib.hid (show Below w.heap.size w wr.drew from HB.out.drew)
      have hk1 : (k : Int) < (n : Int) := by omega
      clear hl hl' hd hd' hmem hmem' hI hI' h8 e1 e2
      go_wp2_with fail
      go_region_with (go_at_call 16; refine (HE.out _ HBD.out).mono ?_; rintro e w2 ⟨rfl, hb2⟩; have HB2 := Lib.hid (HBD.out.trans (hb2.mono HBD.out.size)); clear hb2)
      all_goals
        go_wp2_with fail
        go_roundw
        case rel => exact ⟨k + 1, by omega, by go_num, HB2.out⟩
        case measure => simp [intOf]; omega
    · obtain rfl : k = n := by omega
      go_wp2_with fail
      go_ret
      exact ⟨rfl, HB.out⟩
end Go.Proofs.YtfdbmhelcmifoaaDoor.Vp
