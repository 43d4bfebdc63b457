/- What the model makes of tab stops taken away. -/
import Derived.Test.YtgnpgkkjcloghaaGreatCsQ
set_option maxRecDepth 100000
set_option maxHeartbeats 3200000
set_option linter.unusedVariables false
namespace Go.Proofs.YtgnpgkkjcloghaaGreat.Sc
open Lib
open Go.RowKit Bytes Rows_ RowK Gr DOk Opq Attr
attribute [local go_sem ↓] Sc.exec_storeS Sc.exec_loadS
attribute [local go_sem] rowOf_drew blkOf_ptr isHead_ptr aggN_agg setRow_alloc rowZ_at rowZ_past scrA_size one_scr rowOf_alloc_at rowOf_alloc_past
attribute [local go_sem] sa_w sa_h sa_mw sa_mh sa_M sa_aw sa_ah sa_A sa_onAlt sa_x sa_y sa_wrap sa_fg sa_bg sa_b sa_u sa_t sa_top sa_bot sa_noWrap sa_hide sa_sx sa_sy sa_sfg sa_sbg sa_sb sa_su sa_st sa_tabs sa_lim sa_rows
attribute [local go_sem] scr_at0 scr_at1 scr_at2 scr_at3 scr_at4 scr_at5 scr_at6 scr_at7 scr_at8 scr_at9 scr_at10 scr_at11 scr_at12 scr_at13 scr_at14 scr_at15 scr_at16 scr_at17 scr_at18 scr_at19 scr_at20 scr_at21 scr_at22 scr_at23 scr_at24 scr_at25 scr_at26 scr_at27 scr_at28 scr_at29 scr_at30
def tabQ (k X : Int) (x : Int) : Bool := if k = 0 then !decide (x = X) else if k = 3 then false else true
theorem tabsOff_eq (d : ScrD) (k : Int) : tabsOff d k = tabsD d (d.tabs.filter (tabQ k d.x)) := by
  unfold tabsOff
  by_cases h0 : k = 0
  · rw [if_pos h0]
    have e : (fun x => !decide (x = d.x)) = tabQ k d.x := by funext x; unfold tabQ; rw [if_pos h0]
    rw [e]
  · rw [if_neg h0]
    by_cases h3 : k = 3
    · rw [if_pos h3]
      have e : d.tabs.filter (tabQ k d.x) = [] := List.filter_eq_nil_iff.2 fun x _ => by unfold tabQ; rw [if_neg h0, if_pos h3]; decide
      rw [e]
    · rw [if_neg h3]
      have e : d.tabs.filter (tabQ k d.x) = d.tabs := List.filter_eq_self.2 fun x _ => by unfold tabQ; rw [if_neg h0, if_neg h3]
      rw [e]; rfl
theorem fil_in {p : Int → Bool} {zs : List Int} {k : Nat} (hk : k < zs.length) (h : p zs[k] = true) : (zs.take (k + 1)).filter p = (zs.take k).filter p ++ [zs[k]] := by
  rw [List.take_add_one, List.getElem?_eq_getElem hk, List.filter_append]; simp [h]
theorem fil_out {p : Int → Bool} {zs : List Int} {k : Nat} (hk : k < zs.length) (h : p zs[k] = false) : (zs.take (k + 1)).filter p = (zs.take k).filter p := by
  rw [List.take_add_one, List.getElem?_eq_getElem hk, List.filter_append]; simp [h]
theorem l10Tabs_any (s : ScrS) (B : Nat) (k0 : Int) (w : World) (hB : B ≤ w.heap.size) (ho : OwnS w B s) (hok : okD s.data = true) :
    Calls Tryz.prog 52 #[.agg (scrA s), .int .i64 k0] w (AnsP B (tabsOff s.data k0) w) := by
  have hone0 : One #[.int .i64 0, .int .i64 0, .int .i64 0, .int .i64 0, .slice none 0 0, .int .i64 0, .int .i64 0, .slice none 0 0, .bool false, .int .i64 0, .int .i64 0, .bool false, .int .i64 0, .int .i64 0, .bool false, .bool false, .bool false, .int .i64 0, .int .i64 0, .bool false, .bool false, .int .i64 0, .int .i64 0, .int .i64 0, .int .i64 0, .bool false, .bool false, .bool false, .slice none 0 0, .int .i64 0, .slice none 0 0] := one_scr zeroS
  have hNN : s.tabs.length ≤ 121 := ok_tabs hok
  obtain ⟨W1, hW⟩ : ∃ W, W = (w.alloc (.cells (scrA s) 38)).alloc (.cells #[.int .i64 0, .int .i64 0, .int .i64 0, .int .i64 0, .slice none 0 0, .int .i64 0, .int .i64 0, .slice none 0 0, .bool false, .int .i64 0, .int .i64 0, .bool false, .int .i64 0, .int .i64 0, .bool false, .bool false, .bool false, .int .i64 0, .int .i64 0, .bool false, .bool false, .int .i64 0, .int .i64 0, .int .i64 0, .int .i64 0, .bool false, .bool false, .bool false, .slice none 0 0, .int .i64 0, .slice none 0 0] 38) := ⟨_, rfl⟩
  have RB1 := hid (show RowS W1 w.heap.size s from by rw [hW]; exact (RowS.new w s).alloc _)
  have RZ1 := hid (show RowS W1 (w.heap.size + 1) zeroS from by
    rw [hW]
    have h := RowS.new (w.alloc (.cells (scrA s) 38)) zeroS
    rw [World.size_alloc] at h; exact h)
  have hal0 : Below w.heap.size w W1 := by rw [hW]; exact ((Below.refl w.heap.size w).alloc (Nat.le_refl _) _).alloc (by simp) _
  have H1 := hid hal0
  have O1 := hid (ho.below (Nat.le_refl _) hal0)
  have hs1 : w.heap.size + 1 < W1.heap.size := RZ1.out.lt
  have row1 : rowOf W1 w.heap.size = scrA s := RB1.out.of
  have rz1 : RowZ W1 (w.heap.size + 1) 31 := RowZ.of RZ1.out.row 31 rfl
  clear hal0
  obtain ⟨zs, hzs⟩ : ∃ zs, zs = s.tabs := ⟨_, rfl⟩
  obtain ⟨N, hN⟩ : ∃ N, N = zs.length := ⟨_, rfl⟩
  obtain ⟨TA, hTA⟩ : ∃ TA, TA = s.tA := ⟨_, rfl⟩
  obtain ⟨X, hX⟩ : ∃ X, X = s.x := ⟨_, rfl⟩
  obtain ⟨p, hp⟩ : ∃ p, p = tabQ k0 X := ⟨_, rfl⟩
  have HL := hid hN.symm
  have HX := hid hX.symm
  have HPD := hid hp
  have hNb : N ≤ 121 := by rw [hN, hzs]; exact hNN
  have HTR := hid (fun V (hb : Below w.heap.size w V) => show RdI V V.heap.size TA zs from by rw [hTA, hzs]; exact ((ho.t.rd).below (Nat.le_refl _) hb).more hb.size)
  have HD := hid (show tabsOff s.data k0 = tabsD s.data (zs.filter p) from by rw [tabsOff_eq, hzs, hp, hX]; rfl)
  have a28 : W1.cell? ⟨w.heap.size, 28, none⟩ = some (.slice TA N s.tk) := by rw [hTA, hN, hzs]; exact RB1.out.cell 28
  clear ho hok hNN hN hX hTA hp hzs
  by_cases z0 : k0 = 0
  · subst z0
    obtain ⟨i0, hi, hz0, hz1, hz2⟩ := info_parts intInfo
    have hs0 : w.heap.size < W1.heap.size := by omega
    go_enter Tryz.func52, Tryz.ntmps52
    go_upto_region 1 with fail
    rw [← hW]
    clear hW
    go_wp2_with fail
    go_loopw [5, 12] (fun a i wr => ∃ (k m : Nat) (A : Option Addr) (c : Nat), k ≤ N ∧ m ≤ k ∧ i = .int .i64 (k : Int) ∧ a = .slice A m c ∧ OwnI wr W1.heap.size A m c ((zs.take k).filter p) ∧ Below W1.heap.size W1 wr) (fun _ i _ => N - (intOf i).toNat)
    case atStart => exact ⟨0, 0, _, 0, Nat.zero_le _, Nat.le_refl _, rfl, rfl, own_empty W1 _ _, (Below.refl W1.heap.size W1).alloc (Nat.le_refl _) _⟩
    case round =>
      obtain ⟨k, m, A, c, hk, hm, rfl, rfl, hoi, hbr⟩ := hrel
      have HOI := hid hoi
      have HBR := hid hbr
      have RBr := hid (RB1.out.below hbr RB1.out.lt)
      have RZr := hid (RZ1.out.below hbr RZ1.out.lt)
      have Hr := hid (H1.out.trans (hbr.mono (by omega)))
      have Or := hid (O1.out.below (Nat.le_refl _) hbr)
      have hzr : W1.heap.size ≤ wr.heap.size := hbr.size
      have zr : w.heap.size < wr.heap.size := by omega
      clear hoi hbr row1 rz1
      by_cases hlt : k < N
      · have hlt' : k < zs.length := by rw [HL.out]; exact hlt
        have a9 : wr.cell? ⟨w.heap.size, 9, none⟩ = some (.int .i64 X) := by rw [← HX.out]; exact RBr.out.cell 9
        obtain ⟨b0, o0, rfl, hb0, hc⟩ := (HTR.out wr Hr.out).at_ hlt'
        have HIN := hid (fun h => fil_in (p := p) hlt' h)
        have HOUT := hid (fun h => fil_out (p := p) hlt' h)
        generalize zs[k] = z at *
        by_cases hx : z = X
        · have HP := hid (show p z = false from by rw [HPD.out]; unfold tabQ; rw [if_pos rfl, decide_eq_true hx]; rfl)
          have hxb : (z != X) = false := by simp [hx]
          have HS := hid (HOUT.out HP.out)
          clear HIN HOUT
          go_wp2_with fail
          exact ⟨⟨k + 1, m, A, c, by omega, by omega, by go_num, rfl, by rw [HS.out]; exact HOI.out, HBR.out⟩, by simp [intOf]; omega⟩
        · have HP := hid (show p z = true from by rw [HPD.out]; unfold tabQ; rw [if_pos rfl, decide_eq_false hx]; rfl)
          have hxb : (z != X) = true := by simp [hx]
          have HS := hid (HIN.out HP.out)
          clear HIN HOUT
          go_wp2_with (at_builtin; refine AppOne.append_one Tryz.underlying27 hi hz0 hz1 hz2 rfl (by decide) rfl _ _ rfl rfl wr.heap.size rfl rfl HOI.out rfl (by omega) (by omega) ?_)
          intro A' c' w' ho' hg' _
          have HO' := hid (show OwnI w' W1.heap.size A' (m + 1) c' ((zs.take (k + 1)).filter p) by rw [HS.out]; unfold OwnI; rw [← iv_snoc]; exact ho')
          have HB' := hid (HBR.out.grown hg' hzr (fun g hg => (HOI.out.blk g hg).1))
          clear ho' hg'
          go_wp2_with fail
          exact ⟨⟨k + 1, m + 1, A', c', by omega, by omega, by go_num, rfl, HO'.out, HB'.out⟩, by simp [intOf]; omega⟩
      · obtain rfl : N = k := by omega
        rw [show zs.take N = zs from List.take_of_length_le (by rw [HL.out]; exact Nat.le_refl _)] at HOI
        have hml : m = (zs.filter p).length := HOI.out.len.symm
        have c28 : wr.cell? ⟨w.heap.size, 28, none⟩ = some (.slice s.tA s.tabs.length s.tk) := RBr.out.cell 28
        have f28 := RBr.out.free 28
        have R5 := hid (show RowS (wr.setCell ⟨w.heap.size, 28, none⟩ (.slice A m c)) w.heap.size { s with tA := A, tk := c, tabs := zs.filter p } from by rw [hml]; exact RBr.out.s_tabs)
        have Z5 := hid (show RowS (wr.setCell ⟨w.heap.size, 28, none⟩ (.slice A m c)) (w.heap.size + 1) zeroS from RZr.out.other (by omega))
        have H5 := hid (show Below w.heap.size w (wr.setCell ⟨w.heap.size, 28, none⟩ (.slice A m c)) from Hr.out.setCell (Nat.le_refl _) _)
        have O5 := hid (show OwnS (wr.setCell ⟨w.heap.size, 28, none⟩ (.slice A m c)) B { s with tA := A, tk := c, tabs := zs.filter p } from by
          have h0 : OwnS wr B { s with tA := A, tk := c, tabs := zs.filter p } := ⟨Or.out.c, (by have h := HOI.out.more (base' := B) (by omega); rw [hml] at h; exact h), Or.out.r⟩
          exact h0.only (S := fun i => i = w.heap.size) (Only.cell_ wr w.heap.size 28 (.slice A m c) rfl) (fun i hi e => RBr.out.apart h0 (e ▸ hi)))
        obtain ⟨t5, ht5⟩ : ∃ t5 : ScrS, t5 = { s with tA := A, tk := c, tabs := zs.filter p } := ⟨_, rfl⟩
        have D5 := hid (show t5.data = tabsOff s.data 0 from by rw [ht5, HD.out]; rfl)
        rw [← ht5] at R5 O5
        clear ht5 hml
        go_upto_region 9 with fail
        obtain ⟨V5, hV5⟩ : ∃ V5, V5 = wr.setCell ⟨w.heap.size, 28, none⟩ (.slice A m c) := ⟨_, rfl⟩
        rw [← hV5] at R5 Z5 H5 O5 ⊢
        clear hV5 c28 f28
        have rowT5 : rowOf V5 w.heap.size = scrA t5 := R5.out.of
        have rz5 : RowZ V5 (w.heap.size + 1) 31 := RowZ.of Z5.out.row 31 rfl
        have l5 : w.heap.size < V5.heap.size := R5.out.lt
        go_wp2_with fail
        refine bodyPost_ret (v := .agg (scrA t5)) (res55 Tryz.results52 _ _ (w.heap.size + 1) _ (by simp) ((Z5.out).row.setRow) rfl) rfl ⟨t5, rfl, ?_, ?_, ?_⟩
        · exact OwnS.keepRow (O5.out) (w.heap.size + 1) _ (.inr (RowS.apart (Z5.out) (O5.out)))
        · exact D5.out
        · exact below_setRow (H5.out) (by omega) _
  by_cases z3 : k0 = 3
  · subst z3
    obtain ⟨i0, hi, hz0, hz1, hz2⟩ := info_parts intInfo
    have hs0 : w.heap.size < W1.heap.size := by omega
    go_enter Tryz.func52, Tryz.ntmps52
    go_upto_region 1 with fail
    rw [← hW]
    clear hW
    go_wp2_with fail
    go_loopw [5, 12] (fun a i wr => ∃ (k m : Nat) (A : Option Addr) (c : Nat), k ≤ N ∧ m ≤ k ∧ i = .int .i64 (k : Int) ∧ a = .slice A m c ∧ OwnI wr W1.heap.size A m c ((zs.take k).filter p) ∧ Below W1.heap.size W1 wr) (fun _ i _ => N - (intOf i).toNat)
    case atStart => exact ⟨0, 0, _, 0, Nat.zero_le _, Nat.le_refl _, rfl, rfl, own_empty W1 _ _, (Below.refl W1.heap.size W1).alloc (Nat.le_refl _) _⟩
    case round =>
      obtain ⟨k, m, A, c, hk, hm, rfl, rfl, hoi, hbr⟩ := hrel
      have HOI := hid hoi
      have HBR := hid hbr
      have RBr := hid (RB1.out.below hbr RB1.out.lt)
      have RZr := hid (RZ1.out.below hbr RZ1.out.lt)
      have Hr := hid (H1.out.trans (hbr.mono (by omega)))
      have Or := hid (O1.out.below (Nat.le_refl _) hbr)
      have hzr : W1.heap.size ≤ wr.heap.size := hbr.size
      have zr : w.heap.size < wr.heap.size := by omega
      clear hoi hbr row1 rz1
      by_cases hlt : k < N
      · have hlt' : k < zs.length := by rw [HL.out]; exact hlt
        have a9 : wr.cell? ⟨w.heap.size, 9, none⟩ = some (.int .i64 X) := by rw [← HX.out]; exact RBr.out.cell 9
        obtain ⟨b0, o0, rfl, hb0, hc⟩ := (HTR.out wr Hr.out).at_ hlt'
        have HIN := hid (fun h => fil_in (p := p) hlt' h)
        have HOUT := hid (fun h => fil_out (p := p) hlt' h)
        generalize zs[k] = z at *
        have HP := hid (show p z = false from by rw [HPD.out]; unfold tabQ; rw [if_neg (by decide), if_pos rfl])
        have HS := hid (HOUT.out HP.out)
        clear HIN HOUT
        go_wp2_with fail
        exact ⟨⟨k + 1, m, A, c, by omega, by omega, by go_num, rfl, by rw [HS.out]; exact HOI.out, HBR.out⟩, by simp [intOf]; omega⟩
      · obtain rfl : N = k := by omega
        rw [show zs.take N = zs from List.take_of_length_le (by rw [HL.out]; exact Nat.le_refl _)] at HOI
        have hml : m = (zs.filter p).length := HOI.out.len.symm
        have c28 : wr.cell? ⟨w.heap.size, 28, none⟩ = some (.slice s.tA s.tabs.length s.tk) := RBr.out.cell 28
        have f28 := RBr.out.free 28
        have R5 := hid (show RowS (wr.setCell ⟨w.heap.size, 28, none⟩ (.slice A m c)) w.heap.size { s with tA := A, tk := c, tabs := zs.filter p } from by rw [hml]; exact RBr.out.s_tabs)
        have Z5 := hid (show RowS (wr.setCell ⟨w.heap.size, 28, none⟩ (.slice A m c)) (w.heap.size + 1) zeroS from RZr.out.other (by omega))
        have H5 := hid (show Below w.heap.size w (wr.setCell ⟨w.heap.size, 28, none⟩ (.slice A m c)) from Hr.out.setCell (Nat.le_refl _) _)
        have O5 := hid (show OwnS (wr.setCell ⟨w.heap.size, 28, none⟩ (.slice A m c)) B { s with tA := A, tk := c, tabs := zs.filter p } from by
          have h0 : OwnS wr B { s with tA := A, tk := c, tabs := zs.filter p } := ⟨Or.out.c, (by have h := HOI.out.more (base' := B) (by omega); rw [hml] at h; exact h), Or.out.r⟩
          exact h0.only (S := fun i => i = w.heap.size) (Only.cell_ wr w.heap.size 28 (.slice A m c) rfl) (fun i hi e => RBr.out.apart h0 (e ▸ hi)))
        obtain ⟨t5, ht5⟩ : ∃ t5 : ScrS, t5 = { s with tA := A, tk := c, tabs := zs.filter p } := ⟨_, rfl⟩
        have D5 := hid (show t5.data = tabsOff s.data 3 from by rw [ht5, HD.out]; rfl)
        rw [← ht5] at R5 O5
        clear ht5 hml
        go_upto_region 9 with fail
        obtain ⟨V5, hV5⟩ : ∃ V5, V5 = wr.setCell ⟨w.heap.size, 28, none⟩ (.slice A m c) := ⟨_, rfl⟩
        rw [← hV5] at R5 Z5 H5 O5 ⊢
        clear hV5 c28 f28
        have rowT5 : rowOf V5 w.heap.size = scrA t5 := R5.out.of
        have rz5 : RowZ V5 (w.heap.size + 1) 31 := RowZ.of Z5.out.row 31 rfl
        have l5 : w.heap.size < V5.heap.size := R5.out.lt
        go_wp2_with fail
        refine bodyPost_ret (v := .agg (scrA t5)) (res55 Tryz.results52 _ _ (w.heap.size + 1) _ (by simp) ((Z5.out).row.setRow) rfl) rfl ⟨t5, rfl, ?_, ?_, ?_⟩
        · exact OwnS.keepRow (O5.out) (w.heap.size + 1) _ (.inr (RowS.apart (Z5.out) (O5.out)))
        · exact D5.out
        · exact below_setRow (H5.out) (by omega) _
  · have z3b : (k0 == 3) = false := by simpa using z3
    have z0n : (k0 != 0) = true := by simpa using z0
    have z3n : (k0 != 3) = true := by simpa using z3
    have z0b : (k0 == 0) = false := by simpa using z0
    obtain ⟨i0, hi, hz0, hz1, hz2⟩ := info_parts intInfo
    have hs0 : w.heap.size < W1.heap.size := by omega
    go_enter Tryz.func52, Tryz.ntmps52
    go_upto_region 1 with fail
    rw [← hW]
    clear hW
    go_wp2_with fail
    go_loopw [5, 12] (fun a i wr => ∃ (k m : Nat) (A : Option Addr) (c : Nat), k ≤ N ∧ m ≤ k ∧ i = .int .i64 (k : Int) ∧ a = .slice A m c ∧ OwnI wr W1.heap.size A m c ((zs.take k).filter p) ∧ Below W1.heap.size W1 wr) (fun _ i _ => N - (intOf i).toNat)
    case atStart => exact ⟨0, 0, _, 0, Nat.zero_le _, Nat.le_refl _, rfl, rfl, own_empty W1 _ _, (Below.refl W1.heap.size W1).alloc (Nat.le_refl _) _⟩
    case round =>
      obtain ⟨k, m, A, c, hk, hm, rfl, rfl, hoi, hbr⟩ := hrel
      have HOI := hid hoi
      have HBR := hid hbr
      have RBr := hid (RB1.out.below hbr RB1.out.lt)
      have RZr := hid (RZ1.out.below hbr RZ1.out.lt)
      have Hr := hid (H1.out.trans (hbr.mono (by omega)))
      have Or := hid (O1.out.below (Nat.le_refl _) hbr)
      have hzr : W1.heap.size ≤ wr.heap.size := hbr.size
      have zr : w.heap.size < wr.heap.size := by omega
      clear hoi hbr row1 rz1
      by_cases hlt : k < N
      · have hlt' : k < zs.length := by rw [HL.out]; exact hlt
        have a9 : wr.cell? ⟨w.heap.size, 9, none⟩ = some (.int .i64 X) := by rw [← HX.out]; exact RBr.out.cell 9
        obtain ⟨b0, o0, rfl, hb0, hc⟩ := (HTR.out wr Hr.out).at_ hlt'
        have HIN := hid (fun h => fil_in (p := p) hlt' h)
        have HOUT := hid (fun h => fil_out (p := p) hlt' h)
        generalize zs[k] = z at *
        have HP := hid (show p z = true from by rw [HPD.out]; unfold tabQ; rw [if_neg z0, if_neg z3])
        have HS := hid (HIN.out HP.out)
        clear HIN HOUT
        go_wp2_with (at_builtin; refine AppOne.append_one Tryz.underlying27 hi hz0 hz1 hz2 rfl (by decide) rfl _ _ rfl rfl wr.heap.size rfl rfl HOI.out rfl (by omega) (by omega) ?_)
        intro A' c' w' ho' hg' _
        have HO' := hid (show OwnI w' W1.heap.size A' (m + 1) c' ((zs.take (k + 1)).filter p) by rw [HS.out]; unfold OwnI; rw [← iv_snoc]; exact ho')
        have HB' := hid (HBR.out.grown hg' hzr (fun g hg => (HOI.out.blk g hg).1))
        clear ho' hg'
        go_wp2_with fail
        exact ⟨⟨k + 1, m + 1, A', c', by omega, by omega, by go_num, rfl, HO'.out, HB'.out⟩, by simp [intOf]; omega⟩
      · obtain rfl : N = k := by omega
        rw [show zs.take N = zs from List.take_of_length_le (by rw [HL.out]; exact Nat.le_refl _)] at HOI
        have hml : m = (zs.filter p).length := HOI.out.len.symm
        have c28 : wr.cell? ⟨w.heap.size, 28, none⟩ = some (.slice s.tA s.tabs.length s.tk) := RBr.out.cell 28
        have f28 := RBr.out.free 28
        have R5 := hid (show RowS (wr.setCell ⟨w.heap.size, 28, none⟩ (.slice A m c)) w.heap.size { s with tA := A, tk := c, tabs := zs.filter p } from by rw [hml]; exact RBr.out.s_tabs)
        have Z5 := hid (show RowS (wr.setCell ⟨w.heap.size, 28, none⟩ (.slice A m c)) (w.heap.size + 1) zeroS from RZr.out.other (by omega))
        have H5 := hid (show Below w.heap.size w (wr.setCell ⟨w.heap.size, 28, none⟩ (.slice A m c)) from Hr.out.setCell (Nat.le_refl _) _)
        have O5 := hid (show OwnS (wr.setCell ⟨w.heap.size, 28, none⟩ (.slice A m c)) B { s with tA := A, tk := c, tabs := zs.filter p } from by
          have h0 : OwnS wr B { s with tA := A, tk := c, tabs := zs.filter p } := ⟨Or.out.c, (by have h := HOI.out.more (base' := B) (by omega); rw [hml] at h; exact h), Or.out.r⟩
          exact h0.only (S := fun i => i = w.heap.size) (Only.cell_ wr w.heap.size 28 (.slice A m c) rfl) (fun i hi e => RBr.out.apart h0 (e ▸ hi)))
        obtain ⟨t5, ht5⟩ : ∃ t5 : ScrS, t5 = { s with tA := A, tk := c, tabs := zs.filter p } := ⟨_, rfl⟩
        have D5 := hid (show t5.data = tabsOff s.data k0 from by rw [ht5, HD.out]; rfl)
        rw [← ht5] at R5 O5
        clear ht5 hml
        go_upto_region 9 with fail
        obtain ⟨V5, hV5⟩ : ∃ V5, V5 = wr.setCell ⟨w.heap.size, 28, none⟩ (.slice A m c) := ⟨_, rfl⟩
        rw [← hV5] at R5 Z5 H5 O5 ⊢
        clear hV5 c28 f28
        have rowT5 : rowOf V5 w.heap.size = scrA t5 := R5.out.of
        have rz5 : RowZ V5 (w.heap.size + 1) 31 := RowZ.of Z5.out.row 31 rfl
        have l5 : w.heap.size < V5.heap.size := R5.out.lt
        go_wp2_with fail
        refine bodyPost_ret (v := .agg (scrA t5)) (res55 Tryz.results52 _ _ (w.heap.size + 1) _ (by simp) ((Z5.out).row.setRow) rfl) rfl ⟨t5, rfl, ?_, ?_, ?_⟩
        · exact OwnS.keepRow (O5.out) (w.heap.size + 1) _ (.inr (RowS.apart (Z5.out) (O5.out)))
        · exact D5.out
        · exact below_setRow (H5.out) (by omega) _
end Go.Proofs.YtgnpgkkjcloghaaGreat.Sc
