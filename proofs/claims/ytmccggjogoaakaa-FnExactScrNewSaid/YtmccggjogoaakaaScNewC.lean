/- New screens, in the program and in the model: both answer a blank screen, or the zero value. -/
import Derived.Test.YtmccggjogoaakaaScNewB
import Derived.Test.YtmccggjogoaakaaScTbA
import Derived.Test.YtmccggjogoaakaaScO
import Derived.Test.YtmccggjogoaakaaGrNew
import Derived.Deep.RegionHeld3
import Derived.Deep.DrawnRows
import Derived.IntWalk
namespace Go.Proofs.Ytmccggjogoaakaa.Sc
open Go.RowKit Go.Proofs.Ytmccggjogoaakaa.Bytes Go.Proofs.Ytmccggjogoaakaa.Rows_ Go.Proofs.Ytmccggjogoaakaa.RowK Go.Proofs.Ytmccggjogoaakaa.Gr Go.Proofs.Ytmccggjogoaakaa.DOk Go.Proofs.Ytmccggjogoaakaa.Opq
set_option linter.unusedVariables false
attribute [local go_sem ↓] Go.wp_at_zero Go.wp_at_succ Sc.exec_storeS
attribute [local go_sem] blkOf_ptr isHead_ptr aggN_agg setRow_alloc rowZ_at rowZ_past rowZ_setRow cell_setRow'
def newS (W H : Nat) (lim : Int) (A1 A2 A3 : Option Addr) (c1 c2 c3 : Nat) : ScrS :=
  ⟨W, H, W, H, ⟨A1, c1, List.replicate (W * H) blankC⟩, W, H, ⟨A2, c2, List.replicate (W * H) blankC⟩, false, 0, 0, false, 0, 0, false, false, false, 0, (H : Int) - 1, false, false, 0, 0, 0, 0, false, false, false, A3, c3, tabsK ((W - 1) / 8), lim, none, 0, []⟩
def newB (gw gh lim : Int) : Bool := sizeB gw gh && okL lim
def newD (gw gh lim : Int) : ScrD := if newB gw gh lim then (newS gw.toNat gh.toNat lim none none none 0 0 0).data else zeroS.data
def AnsNew (gw gh lim : Int) (w : World) (e : Ending) (w' : World) : Prop := ∃ s, e = .returned (.tuple #[.agg (scrA s), .bool (newB gw gh lim)]) ∧ OwnS w' w.heap.size s ∧ s.data = newD gw gh lim ∧ Below w.heap.size w w'
theorem ansNew_no {gw gh lim : Int} {w w' : World} (h : newB gw gh lim = false) (hb : Below w.heap.size w w') : AnsNew gw gh lim w (.returned (.tuple #[.agg (scrA zeroS), .bool false])) w' :=
  ⟨zeroS, by rw [h], zeroS_own _ _, by unfold newD; rw [h]; rfl, hb⟩
set_option maxRecDepth 100000 in
set_option maxHeartbeats 16000000 in
theorem spec_ScrNew_any (gw gh lim : Int) (w : World) : Calls Try.prog 21 #[.int .i64 gw, .int .i64 gh, .int .i64 lim] w (AnsNew gw gh lim w) := by
  have hb0 := Lib.hid ((Below.refl w.heap.size w).alloc (Nat.le_refl _) (.cells #[.int .i64 0, .int .i64 0, .int .i64 0, .int .i64 0, .slice none 0 0, .int .i64 0, .int .i64 0, .slice none 0 0, .bool false, .int .i64 0, .int .i64 0, .bool false, .int .i64 0, .int .i64 0, .bool false, .bool false, .bool false, .int .i64 0, .int .i64 0, .bool false, .bool false, .int .i64 0, .int .i64 0, .int .i64 0, .int .i64 0, .bool false, .bool false, .bool false, .slice none 0 0, .int .i64 0, .slice none 0 0] 45))
  have B0 := Lib.hid (RowB.new w #[.int .i64 0, .int .i64 0, .int .i64 0, .int .i64 0, .slice none 0 0, .int .i64 0, .int .i64 0, .slice none 0 0, .bool false, .int .i64 0, .int .i64 0, .bool false, .int .i64 0, .int .i64 0, .bool false, .bool false, .bool false, .int .i64 0, .int .i64 0, .bool false, .bool false, .int .i64 0, .int .i64 0, .int .i64 0, .int .i64 0, .bool false, .bool false, .bool false, .slice none 0 0, .int .i64 0, .slice none 0 0] 45)
  have hone0 : One #[.int .i64 0, .int .i64 0, .int .i64 0, .int .i64 0, .slice none 0 0, .int .i64 0, .int .i64 0, .slice none 0 0, .bool false, .int .i64 0, .int .i64 0, .bool false, .int .i64 0, .int .i64 0, .bool false, .bool false, .bool false, .int .i64 0, .int .i64 0, .bool false, .bool false, .int .i64 0, .int .i64 0, .int .i64 0, .int .i64 0, .bool false, .bool false, .bool false, .slice none 0 0, .int .i64 0, .slice none 0 0] := one_scr zeroS
  have HG := Lib.hid (fun W => spec_GridNew_any gw gh W)
  cases hs : sizeB gw gh
  · have HN := Lib.hid (show newB gw gh lim = false by unfold newB; rw [hs]; rfl)
    have HA := Lib.hid (show ∀ (W : World) e w', AnsN W.heap.size W gw gh e w' → e = .returned (.tuple #[.agg #[.int .i64 0, .int .i64 0, .slice none 0 0], .bool false]) ∧ Below W.heap.size W w' from fun W e w' h => by unfold AnsN at h; rw [hs] at h; exact h)
    clear hs
    go_enter Try.func21, Try.ntmps21
    go_wp2_with fail
    refine (HG.out _).mono ?_
    intro e v1 h1
    obtain ⟨rfl, hb1⟩ := HA.out _ _ _ h1
    have H1 := Lib.hid (hb0.out.trans (hb1.mono (by simp)))
    have B1 := Lib.hid (B0.out.below hb1 B0.out.lt)
    have z1 : w.heap.size < v1.heap.size := B1.out.lt
    have hz1 : RowZ v1 w.heap.size 31 := RowZ.of B1.out 31 rfl
    clear hb1 h1
    go_wp2_with fail
    refine bodyPost_ret (v := .tuple #[.agg (scrA zeroS), .bool false]) (res55b rfl Try.underlying45 rfl size55 _ _ w.heap.size _ _ rfl rfl ((B1.out.alloc _).setRow) rfl) rfl (ansNew_no HN.out ?_)
    exact below_setRow (H1.out.alloc H1.out.size _) (Nat.le_refl _) _
  · obtain ⟨W, H, rfl, rfl, w1, w2, w3, w4, w5, hN⟩ := sidesS hs
    obtain ⟨N, hN2⟩ : ∃ N, N = W * H := ⟨_, rfl⟩
    have HA := Lib.hid (show ∀ (X : World) e w', AnsN X.heap.size X (W : Int) (H : Int) e w' → (∃ A c, e = .returned (.tuple #[.agg #[.int .i64 (W : Int), .int .i64 (H : Int), .slice A N c], .bool true]) ∧ OwnC w' X.heap.size A N c (List.replicate N blankC) ∧ Below X.heap.size X w') from fun X e w' h => by unfold AnsN at h; rw [hs, hN, ← hN2] at h; exact h)
    have hNn : N ≤ 4000 := by omega
    have HN2 := Lib.hid hN2
    cases hlm : okL lim
    · have HN := Lib.hid (show newB (W : Int) (H : Int) lim = false by unfold newB; rw [hlm, Bool.and_false])
      have HLM := Lib.hid hlm
      have hl : lim < 0 ∨ 100 < lim := by have := of_decide_eq_false hlm; omega
      clear hs hN hN2 hlm w5
      have fin : ∀ (v1 : World) (C : Array Value), RowB v1 w.heap.size C → Below w.heap.size w v1 → AnsNew (W : Int) (H : Int) lim w (.returned (.tuple #[.agg (scrA zeroS), .bool false])) ((v1.alloc (.cells #[] 0)).setRow w.heap.size #[.int .i64 0, .int .i64 0, .int .i64 0, .int .i64 0, .slice none 0 0, .int .i64 0, .int .i64 0, .slice none 0 0, .bool false, .int .i64 0, .int .i64 0, .bool false, .int .i64 0, .int .i64 0, .bool false, .bool false, .bool false, .int .i64 0, .int .i64 0, .bool false, .bool false, .int .i64 0, .int .i64 0, .int .i64 0, .int .i64 0, .bool false, .bool false, .bool false, .slice none 0 0, .int .i64 0, .slice none 0 0]) → True := fun _ _ _ _ _ => trivial
      clear fin
      rcases hl with hl | hl
      · have d1 : decide (lim < 0) = true := decide_eq_true hl
        go_enter Try.func21, Try.ntmps21
        go_wp2_with fail
        refine (HG.out _).mono ?_
        intro e v1 h1
        obtain ⟨A1, c1, rfl, ho1, hb1⟩ := HA.out _ _ _ h1
        have H1 := Lib.hid (hb0.out.trans (hb1.mono (by simp)))
        have B1 := Lib.hid (B0.out.below hb1 B0.out.lt)
        have z1 : w.heap.size < v1.heap.size := B1.out.lt
        have hz1 : RowZ v1 w.heap.size 31 := RowZ.of B1.out 31 rfl
        clear hb1 h1 ho1
        go_wp2_with fail
        refine bodyPost_ret (v := .tuple #[.agg (scrA zeroS), .bool false]) (res55b rfl Try.underlying45 rfl size55 _ _ w.heap.size _ _ rfl rfl ((B1.out.alloc _).setRow) rfl) rfl (ansNew_no HN.out ?_)
        exact below_setRow (H1.out.alloc H1.out.size _) (Nat.le_refl _) _
      · have d1 : decide (lim < 0) = false := decide_eq_false (by omega)
        have d2 : decide (100 < lim) = true := decide_eq_true hl
        go_enter Try.func21, Try.ntmps21
        go_wp2_with fail
        refine (HG.out _).mono ?_
        intro e v1 h1
        obtain ⟨A1, c1, rfl, ho1, hb1⟩ := HA.out _ _ _ h1
        have H1 := Lib.hid (hb0.out.trans (hb1.mono (by simp)))
        have B1 := Lib.hid (B0.out.below hb1 B0.out.lt)
        have z1 : w.heap.size < v1.heap.size := B1.out.lt
        have hz1 : RowZ v1 w.heap.size 31 := RowZ.of B1.out 31 rfl
        clear hb1 h1 ho1
        go_wp2_with fail
        refine bodyPost_ret (v := .tuple #[.agg (scrA zeroS), .bool false]) (res55b rfl Try.underlying45 rfl size55 _ _ w.heap.size _ _ rfl rfl ((B1.out.alloc _).setRow) rfl) rfl (ansNew_no HN.out ?_)
        exact below_setRow (H1.out.alloc H1.out.size _) (Nat.le_refl _) _
    · have HN := Lib.hid (show newB (W : Int) (H : Int) lim = true by unfold newB; rw [hs, hlm]; rfl)
      have HLM := Lib.hid hlm
      have hl := of_decide_eq_true hlm
      have hl1 : 0 ≤ lim := hl.1
      have hl2 : lim ≤ 100 := hl.2
      have d1 : decide (lim < 0) = false := decide_eq_false (by omega)
      have d2 : decide (100 < lim) = false := decide_eq_false (by omega)
      obtain ⟨n, hn⟩ : ∃ n, n = (W - 1) / 8 := ⟨_, rfl⟩
      have HNN := Lib.hid hn
      have hone : ∀ (A1 A2 A3 : Option Addr) (c1 c2 c3 : Nat), One #[.int .i64 (W : Int), .int .i64 (H : Int), .int .i64 (W : Int), .int .i64 (H : Int), .slice A1 N c1, .int .i64 (W : Int), .int .i64 (H : Int), .slice A2 N c2, .bool false, .int .i64 0, .int .i64 0, .bool false, .int .i64 0, .int .i64 0, .bool false, .bool false, .bool false, .int .i64 0, .int .i64 ((H : Int) - 1), .bool false, .bool false, .int .i64 0, .int .i64 0, .int .i64 0, .int .i64 0, .bool false, .bool false, .bool false, .slice A3 n c3, .int .i64 lim, .slice none 0 0] := fun A1 A2 A3 c1 c2 c3 => by have h := one_scr (newS W H lim A1 A2 A3 c1 c2 c3); unfold scrA scrL newS at h; simp only [List.length_replicate, tabsK_len, List.length_nil] at h; rw [← hN2, ← hn] at h; exact h
      have HO1 := Lib.hid hone
      have ew : IntKind.i64.wrap ((H : Int) - 1) = (H : Int) - 1 := IntWalk.i64_in _ (by omega)
      have HT := Lib.hid (fun X => l09Tabs_any W X w1 w2)
      rw [← hn] at HT
      clear hs hN hN2 hlm w5 hl hn hone
      go_enter Try.func21, Try.ntmps21
      go_wp2_with fail
      refine (HG.out _).mono ?_
      intro e v1 h1
      obtain ⟨A1, c1, rfl, ho1, hb1⟩ := HA.out _ _ _ h1
      have H1 := Lib.hid (hb0.out.trans (hb1.mono (by simp)))
      have B1 := Lib.hid (B0.out.below hb1 B0.out.lt)
      have z1 : w.heap.size < v1.heap.size := B1.out.lt
      have hal := (Below.refl v1.heap.size v1).alloc (Nat.le_refl _) (.cells #[.int .i64 (W : Int), .int .i64 (H : Int), .slice A1 N c1] 28)
      have G1 := Lib.hid (RowB.new v1 #[.int .i64 (W : Int), .int .i64 (H : Int), .slice A1 N c1] 28)
      have O1 := Lib.hid ((ho1.more (base' := w.heap.size + 1) (by simp)).below (Nat.le_refl _) hal)
      have U1 := Lib.hid (show ∀ g, (Value.slice A1 N c1).ownBlock = some g → g < v1.heap.size from fun g hg => (ho1.blk g hg).2)
      have B2 := Lib.hid (B1.out.below hal B1.out.lt)
      have H2 := Lib.hid (H1.out.trans (hal.mono (Nat.le_of_lt z1)))
      have hnA := ownC_none ho1
      obtain ⟨v2, hv2⟩ : ∃ v, v = v1.alloc (.cells #[.int .i64 (W : Int), .int .i64 (H : Int), .slice A1 N c1] 28) := ⟨_, rfl⟩
      rw [← hv2] at G1 O1 B2 H2
      have HV2 := Lib.hid hv2.symm
      have z2 : v1.heap.size < v2.heap.size := G1.out.lt
      have z3 : w.heap.size < v2.heap.size := B2.out.lt
      clear hal hb1 h1 ho1 hv2
      go_wp2_with fail
      rw [HV2.out]
      clear HV2
      have k0 : v2.cell? ⟨v1.heap.size, 0, none⟩ = some (.int .i64 (W : Int)) := G1.out.cell 0
      have k1 : v2.cell? ⟨v1.heap.size, 1, none⟩ = some (.int .i64 (H : Int)) := G1.out.cell 1
      have k2 : v2.cell? ⟨v1.heap.size, 2, none⟩ = some (.slice A1 N c1) := G1.out.cell 2
      have kz : RowZ v2 w.heap.size 31 := RowZ.of B2.out 31 rfl
      have hone := HO1.out A1
      have HCP := Lib.hid (fun X (h : OwnC X (w.heap.size + 1) A1 N c1 (List.replicate N blankC)) => l07Copy_any (W : Int) (H : Int) A1 N c1 (List.replicate N blankC) X hnA h.rd (by simp) (by omega))
      clear hnA
      have hne : v1.heap.size ≠ w.heap.size := by omega
      have O1x := Lib.hid (O1.out.below (Nat.le_refl _) (Below.drew (Below.refl v2.heap.size v2)))
      have kzd : RowZ v2.drew w.heap.size 31 := kz
      have Z2 := Lib.hid z2
      have Z3 := Lib.hid z3
      go_region_held3 (fun w' => w'.cell? ⟨v1.heap.size, 0, none⟩ = some (.int .i64 (W : Int)) ∧ w'.cell? ⟨v1.heap.size, 1, none⟩ = some (.int .i64 (H : Int)) ∧ w'.cell? ⟨v1.heap.size, 2, none⟩ = some (.slice A1 N c1) ∧ RowZ w' w.heap.size 31) (first | go_keep | (go_split_ands; refine ⟨?_, ?_, ?_, ?_⟩ <;> first | assumption | (rw [cell_setRow' _ _ _ _ _ (by assumption)]; assumption) | exact rowZ_setRow rfl (by assumption)))
        (first
          | (go_at_call 33; (with_reducible refine (HCP.out _ ?_).mono ?_); (first | exact O1t.out | exact O1x.out); rintro e yc ⟨A2, c2, rfl, ho2, hb2⟩; (first | (have HBc := Lib.hid (HBt.out.trans (hb2.mono HBt.out.size)); have O1c := Lib.hid (O1t.out.below (Nat.le_refl _) hb2); have O3c := Lib.hid (O3t.out.below (Nat.le_refl _) hb2); have L2 := Lib.hid HBt.out.size) | (have HBc := Lib.hid (undrew hb2); have O1c := Lib.hid (O1.out.below (Nat.le_refl _) HBc.out); have L2 := Lib.hid (Nat.le_refl v2.heap.size); have L3 := Lib.hid (show v2.heap.size ≤ yc.heap.size from HBc.out.size))); have O2c := Lib.hid ho2; have j0 := (HBc.out.cell (p := ⟨v1.heap.size, 0, none⟩) Z2.out).trans k0; have j1 := (HBc.out.cell (p := ⟨v1.heap.size, 1, none⟩) Z2.out).trans k1; have j2 := (HBc.out.cell (p := ⟨v1.heap.size, 2, none⟩) Z2.out).trans k2; have BR := Lib.hid (B2.out.below HBc.out Z3.out); have jz : RowZ yc w.heap.size 31 := RowZ.of BR.out 31 rfl; have hone := HO1.out A1 A2; clear hb2 ho2)
          | (go_at_call 60; (with_reducible refine (HT.out _).mono ?_); rintro e yt ⟨A3, c3, rfl, ho3, hb3⟩; (first | (have HBt := Lib.hid (HBc.out.trans (hb3.mono HBc.out.size)); have O1t := Lib.hid (O1c.out.below (Nat.le_refl _) hb3); have O2t := Lib.hid (O2c.out.below (Nat.le_refl _) hb3); have L3 := Lib.hid HBc.out.size) | (have HBt := Lib.hid (undrew hb3); have O1t := Lib.hid (O1.out.below (Nat.le_refl _) HBt.out); have L3 := Lib.hid (Nat.le_refl v2.heap.size))); have O3t := Lib.hid ho3; have i0 := (HBt.out.cell (p := ⟨v1.heap.size, 0, none⟩) Z2.out).trans k0; have i1 := (HBt.out.cell (p := ⟨v1.heap.size, 1, none⟩) Z2.out).trans k1; have i2 := (HBt.out.cell (p := ⟨v1.heap.size, 2, none⟩) Z2.out).trans k2; have BT := Lib.hid (B2.out.below HBt.out Z3.out); have iz : RowZ yt w.heap.size 31 := RowZ.of BT.out 31 rfl; clear hb3 ho3))
      all_goals
        go_wp2_with fail
        have hN2 := HN2.out
        have hn := HNN.out
        have HSC := Lib.hid (show scrA (newS W H lim A1 A2 A3 c1 c2 c3) = #[.int .i64 (W : Int), .int .i64 (H : Int), .int .i64 (W : Int), .int .i64 (H : Int), .slice A1 N c1, .int .i64 (W : Int), .int .i64 (H : Int), .slice A2 N c2, .bool false, .int .i64 0, .int .i64 0, .bool false, .int .i64 0, .int .i64 0, .bool false, .bool false, .bool false, .int .i64 0, .int .i64 ((H : Int) - 1), .bool false, .bool false, .int .i64 0, .int .i64 0, .int .i64 0, .int .i64 0, .bool false, .bool false, .bool false, .slice A3 n c3, .int .i64 lim, .slice none 0 0] by unfold scrA scrL newS; simp only [List.length_replicate, tabsK_len, List.length_nil]; rw [← hN2, ← hn])
        have z4 := Z3.out
        have l2 := L2.out
        have l3 := L3.out
        refine bodyPost_ret (v := .tuple #[.agg #[.int .i64 (W : Int), .int .i64 (H : Int), .int .i64 (W : Int), .int .i64 (H : Int), .slice A1 N c1, .int .i64 (W : Int), .int .i64 (H : Int), .slice A2 N c2, .bool false, .int .i64 0, .int .i64 0, .bool false, .int .i64 0, .int .i64 0, .bool false, .bool false, .bool false, .int .i64 0, .int .i64 ((H : Int) - 1), .bool false, .bool false, .int .i64 0, .int .i64 0, .int .i64 0, .int .i64 0, .bool false, .bool false, .bool false, .slice A3 n c3, .int .i64 lim, .slice none 0 0], .bool true]) (res55b rfl Try.underlying45 rfl size55 _ _ w.heap.size _ _ rfl rfl (RowB.setRow (by first | exact BB.out | exact BT.out | exact BR.out)) rfl) rfl ⟨newS W H lim A1 A2 A3 c1 c2 c3, by rw [HSC.out, HN.out], ⟨⟨?_, ?_⟩, ?_, ?_⟩, ?_, ?_⟩
        · intro r hr
          rcases List.mem_cons.1 hr with rfl | hr
          · simp only [newS, List.length_replicate]
            rw [← hN2]
            first
              | exact own_moreK (own_setRow O1t.out w.heap.size _ (by omega)) (by omega)
              | exact own_moreK (own_setRow O1c.out w.heap.size _ (by omega)) (by omega)
          · rcases List.mem_cons.1 hr with rfl | hr
            · simp only [newS, List.length_replicate]
              rw [← hN2]
              first
                | exact own_moreK (own_setRow O2t.out w.heap.size _ z4) (Nat.le_of_lt z4)
                | exact own_moreK (own_setRow O2c.out w.heap.size _ (Nat.lt_of_lt_of_le z4 l2)) (Nat.le_of_lt (Nat.lt_of_lt_of_le z4 l2))
            · cases hr
        · refine List.pairwise_cons.2 ⟨fun y hy => ?_, by simp [newS]⟩
          rcases List.mem_cons.1 hy with rfl | hy
          · intro g hg hg'
            simp only [newS, blkS, List.length_replicate] at hg hg'
            rw [← hN2] at hg hg'
            have h1 := U1.out g hg
            have h2 : v2.heap.size ≤ g := by first | exact (O2t.out.blk g hg').1 | exact Nat.le_trans l2 (O2c.out.blk g hg').1
            have h3 := Z2.out
            omega
          · cases hy
        · simp only [newS, tabsK_len]
          rw [← hn]
          first
            | exact own_moreK (own_setRow O3t.out w.heap.size _ (Nat.lt_of_lt_of_le z4 l3)) (Nat.le_of_lt (Nat.lt_of_lt_of_le z4 l3))
            | exact own_moreK (own_setRow O3c.out w.heap.size _ z4) (Nat.le_of_lt z4)
        · exact OwnR.nil _ _
        · unfold newD; rw [HN.out]; rfl
        · first
            | exact below_setRow (H2.out.trans (HBt.out.mono (Nat.le_of_lt z4))) (Nat.le_refl _) _
            | exact below_setRow (H2.out.trans (HBc.out.mono (Nat.le_of_lt z4))) (Nat.le_refl _) _
end Go.Proofs.Ytmccggjogoaakaa.Sc

