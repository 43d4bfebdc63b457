/- Texts that lay in modules of their own: CsT, CsN. -/
import Derived.Sort.OwnSortedInts
import Derived.Test.YtgnpgkkjcloghaaGreatCsM
import Derived.Test.YtgnpgkkjcloghaaGreatKm15
import Derived.Test.YtgnpgkkjcloghaaGreatCsF
set_option maxRecDepth 100000
set_option maxHeartbeats 3200000
set_option linter.unusedVariables false
namespace Go.Proofs.YtgnpgkkjcloghaaGreat.Sc
open Lib
open Go.RowKit Bytes Rows_ RowK Gr DOk Opq Attr
open Go.Sort
attribute [local go_sem ↓] Sc.exec_storeS Sc.exec_loadS
attribute [local go_sem] blkOf_ptr isHead_ptr aggN_agg setRow_alloc rowZ_at rowZ_past scrA_size nsA_size one_scr rowOf_alloc_at rowOf_alloc_past rowOf_drew ns_pre
attribute [local go_sem] sa_w sa_h sa_mw sa_mh sa_M sa_aw sa_ah sa_A sa_onAlt sa_x sa_y sa_wrap sa_fg sa_bg sa_b sa_u sa_t sa_top sa_bot sa_noWrap sa_hide sa_sx sa_sy sa_sfg sa_sbg sa_sb sa_su sa_st sa_tabs sa_lim sa_rows
attribute [local go_sem] ns_w ns_h ns_mw ns_mh ns_M ns_aw ns_ah ns_A ns_onAlt ns_x ns_y ns_wrap ns_fg ns_bg ns_b ns_u ns_t ns_top ns_bot ns_noWrap ns_hide ns_sx ns_sy ns_sfg ns_sbg ns_sb ns_su ns_st ns_tabs ns_lim ns_rows
attribute [local go_sem] ns_at0 ns_at1 ns_at2 ns_at3 ns_at4 ns_at5 ns_at6 ns_at7 ns_at8 ns_at9 ns_at10 ns_at11 ns_at12 ns_at13 ns_at14 ns_at15 ns_at16 ns_at17 ns_at18 ns_at19 ns_at20 ns_at21 ns_at22 ns_at23 ns_at24 ns_at25 ns_at26 ns_at27 ns_at28 ns_at29 ns_at30 ns_at31 ns_at32 ns_at33 ns_at34 ns_at35 ns_at36 ns_at37
attribute [local go_sem] scr_at0 scr_at1 scr_at2 scr_at3 scr_at4 scr_at5 scr_at6 scr_at7 scr_at8 scr_at9 scr_at10 scr_at11 scr_at12 scr_at13 scr_at14 scr_at15 scr_at16 scr_at17 scr_at18 scr_at19 scr_at20 scr_at21 scr_at22 scr_at23 scr_at24 scr_at25 scr_at26 scr_at27 scr_at28 scr_at29 scr_at30
theorem idxNil_any (F : Value) (w : World) : Calls Tryz.prog 168 #[.slice none 0 0, F] w fun e w' => e = .returned (.int .i64 (-1)) ∧ w = w' := by
  go_enter Tryz.func168, Tryz.ntmps168
  go_wp2_with fail
  go_loopw [8] (fun i wr => i = .int .i64 0 ∧ wr = w) (fun _ _ => 0)
  case atStart => exact ⟨rfl, rfl⟩
  case round =>
    obtain ⟨rfl, rfl⟩ := hrel
    go_wp2_with fail
    go_ret
    exact ⟨rfl, rfl⟩
theorem delNil_any (F : Value) (w : World) : Calls Tryz.prog 159 #[.slice none 0 0, F] w fun e w' => e = .returned (.slice none 0 0) ∧ w = w' := by
  go_enter Tryz.func159, Tryz.ntmps159
  go_wp2_with fail
  refine (idxNil_any F w).mono ?_
  rintro e v ⟨rfl, rfl⟩
  go_wp2_with fail
  go_ret
  exact ⟨rfl, rfl⟩
theorem clo_any (bx g : Nat) (x X : Int) (W : World) (k0 : W.cell? ⟨bx, 0, none⟩ = some (.pointer (some ⟨g, 0, none⟩))) (k9 : W.cell? ⟨g, 9, none⟩ = some (.int .i64 X)) :
    Calls Tryz.prog 160 #[.int .i64 x, .pointer (some ⟨bx, 0, none⟩)] W fun e w' => e = .returned (.bool (decide (x = X))) ∧ ∃ q, w' = W.drewN q := by
  go_enter Tryz.func160, Tryz.ntmps160
  go_wp2_with fail
  go_ret
  refine ⟨?_, 0, rfl⟩
  by_cases h : x = X <;> simp [h]
theorem ownI_putRow {w : World} {base b n c q : Nat} {zs ys : List Int} (h : OwnI w base (some ⟨b, 0, none⟩) n c zs) (hy : ys.length ≤ n) (X : Array Int) (hX : X.size = n) (hx : ∀ j (hj : j < ys.length), X[j]! = ys[j]) :
    OwnI (putRow (Value.int .i64) (Sort.ahead w q) b 0 X) base (some ⟨b, 0, none⟩) ys.length c ys ∧ Only (fun i => i = b) w (putRow (Value.int .i64) (Sort.ahead w q) b 0 X) := by
  have hl := h.len
  rcases h.2 with ⟨hv, _⟩ | ⟨g, cap, cur, hv, hb, hg, hnc, hm, hs, ht⟩
  · injection hv with e1; cases e1
  · injection hv with e1 e2 e3
    injection e1 with e1
    injection e1 with e1
    subst e1 e3
    have hh := heap_sortedI (n := q) (os := #[]) X hg
    rw [grow_empty] at hh
    have hgr := grownBy_sortedI (w := w) (g := b) (n := q) (os := #[]) X
    rw [grow_empty] at hgr
    refine ⟨ownI_of hh hb rfl (by omega) hm (by simp [putCells]; omega) (fun j hj => ?_), ⟨hgr.os, hgr.tape, hgr.output, hgr.size, fun i hi hn => hgr.block i hi (by intro e; injection e with e; exact hn e)⟩⟩
    have hjc : j < cur.size := by omega
    rw [cell_heap hh]
    unfold putCells
    rw [Array.getElem?_mapIdx, Array.getElem?_eq_getElem hjc, Option.map_some, if_pos ⟨Nat.zero_le _, by omega⟩, Nat.sub_zero, hx j hj]
    simp [iv, hj]
theorem sw_other {α : Type} [Inhabited α] (enc : α → Value) (W : World) (blk off n : Nat) (dk : Array α) (os : Array Obj) (a : Addr) (h1 : a.block ≠ blk) (h2 : a.block < W.heap.size) : (sortWorld enc W blk off n dk os).cell? a = W.cell? a := by
  unfold sortWorld
  rw [World.cell?_of_block (heap_grow_old _ _ (by simpa [Sort.ahead] using h2))]
  exact cell?_putRow_other enc _ blk off dk a (.inl h1)
theorem fil_at (F : List Int) (m j : Nat) (hj : j < F.length) : (F ++ List.replicate m (0 : Int)).toArray[j]! = F[j] := by
  rw [getElem!_pos _ j (by simp; omega)]
  simp [List.getElem_append_left, hj]
theorem delI_any {base : Nat} (A : Option Addr) (n c : Nat) (zs : List Int) (bx g : Nat) (X : Int) (w : World) (ho : OwnI w base A n c zs) (hn : n ≤ 1000000) (k0 : w.cell? ⟨bx, 0, none⟩ = some (.pointer (some ⟨g, 0, none⟩))) (k9 : w.cell? ⟨g, 9, none⟩ = some (.int .i64 X))
    (hbx : ¬ (Value.slice A n c).ownBlock = some bx) (hg : ¬ (Value.slice A n c).ownBlock = some g) (hbl : bx < w.heap.size) (hgl : g < w.heap.size) :
    Calls Tryz.prog 159 #[.slice A n c, .func (.func 160) #[] #[.pointer (some ⟨bx, 0, none⟩)]] w fun e w' => ∃ m c1, e = .returned (.slice A m c1) ∧ m = (zs.filter fun x => !decide (x = X)).length ∧ OwnI w' base A m c1 (zs.filter fun x => !decide (x = X)) ∧ Only (fun k => (Value.slice A n c).ownBlock = some k) w w' := by
  have hl := ho.len
  rcases ho.2 with ⟨hv, h0⟩ | ⟨b, cap, cur, hv, hb, hgb, hnc, hm, hs, ht⟩
  · injection hv with e1 e2 e3
    subst e1 e2 e3
    obtain rfl : zs = [] := List.eq_nil_of_length_eq_zero hl
    refine (delNil_any _ w).mono ?_
    rintro e v ⟨rfl, rfl⟩
    exact ⟨0, 0, rfl, rfl, ho, Only.refl _ _⟩
  · injection hv with e1 e2 e3
    subst e1
    have hbb : b ≠ bx := fun e => hbx (by rw [e]; rfl)
    have hbg : b ≠ g := fun e => hg (by rw [e]; rfl)
    have hbw : b < w.heap.size := (Array.getElem?_eq_some_iff.1 hgb).1
    have hH : Holds (Value.int .i64) w b 0 zs.toArray := fun j hj => by
      have hj' : j < n := by rw [← hl]; simpa using hj
      have hj2 : j < zs.length := by omega
      refine ⟨?_, by simp [World.frozen?, hgb]⟩
      rw [Nat.zero_add, World.ownsRow.cellAt (h := ho) j (by omega)]
      simp [iv, hj2]
    have hsz : zs.toArray.size = n := by simpa using hl
    have hc := Tryz.slices_DeleteFunc (Value.int .i64) (fun _ => rfl) (fun x => decide (x = X)) 160 #[.pointer (some ⟨bx, 0, none⟩)] (enters_of Tryz.func160 (by kernel_rfl) rfl) (0 : Int) (fun w => by kernel_rfl) b 0 c zs.toArray w
      (fun W x hB => clo_any bx g x X W ((hB.cell (p := ⟨bx, 0, none⟩) hbl).trans k0) ((hB.cell (p := ⟨g, 9, none⟩) hgl).trans k9))
      (fun m os dk x hd => clo_any bx g x X _ ((sw_other (Value.int .i64) w b 0 m dk os ⟨bx, 0, none⟩ hbb.symm hbl).trans k0) ((sw_other (Value.int .i64) w b 0 m dk os ⟨g, 9, none⟩ hbg.symm hgl).trans k9))
      hH (by omega) (by omega)
    rw [hsz] at hc
    refine hc.mono ?_
    rintro e w' ⟨rfl, q, rfl⟩
    have hfl : (zs.filter fun x => !decide (x = X)).length ≤ n := by rw [← hl]; exact List.length_filter_le _ _
    obtain ⟨h1, h2⟩ := ownI_putRow (q := q) (ys := zs.filter fun x => !decide (x = X)) ho hfl ((zs.filter fun x => !decide (x = X)) ++ List.replicate (n - (zs.filter fun x => !decide (x = X)).length) 0).toArray (by simp; omega) (fun j hj => fil_at _ _ j hj)
    refine ⟨_, _, rfl, rfl, h1, h2.mono (fun i e => ?_)⟩
    rw [e]; rfl
theorem rmT_call (t : ScrS) (g B n : Nat) (w : World) (hN : RowN w g t) (hO : OwnS w B t) (hl : n = t.tabs.length) (hnn : n ≤ 121) (hB : B ≤ g) :
    Calls Tryz.prog 159 #[.slice t.tA n t.tk, .func (.func 160) #[] #[.pointer (some ⟨w.heap.size, 0, none⟩)]] (w.alloc (.cells #[.pointer (some ⟨g, 0, none⟩)] 93)).drew fun e y => ∃ m c1, e = .returned (.slice t.tA m c1) ∧ y.cell? ⟨w.heap.size, 0, none⟩ = some (.pointer (some ⟨g, 0, none⟩)) ∧ y.cell? ⟨g, 28, none⟩ = some (.slice t.tA n t.tk) ∧ y.frozen? ⟨g, 28, none⟩ = false ∧ g < y.heap.size ∧
      RowN (y.setCell ⟨g, 28, none⟩ (.slice t.tA m c1)) g { t with tk := c1, tabs := t.tabs.filter fun x => !decide (x = t.x) } ∧ OwnS (y.setCell ⟨g, 28, none⟩ (.slice t.tA m c1)) B { t with tk := c1, tabs := t.tabs.filter fun x => !decide (x = t.x) } ∧ Below B w (y.setCell ⟨g, 28, none⟩ (.slice t.tA m c1)) := by
  have ha := (Below.refl w.heap.size w).alloc (Nat.le_refl _) (.cells #[.pointer (some ⟨g, 0, none⟩)] 93)
  have hN1 : RowN (w.alloc (.cells #[.pointer (some ⟨g, 0, none⟩)] 93)).drew g t := (hN.alloc _).drew
  have hO1 : OwnS (w.alloc (.cells #[.pointer (some ⟨g, 0, none⟩)] 93)).drew B t := (hO.below (Nat.le_refl _) ha).drew
  have hgl := hN.lt
  have hsz : (w.alloc (.cells #[.pointer (some ⟨g, 0, none⟩)] 93)).drew.heap.size = w.heap.size + 1 := by show (w.alloc _).heap.size = _; simp
  have hbx : (w.alloc (.cells #[.pointer (some ⟨g, 0, none⟩)] 93)).drew.cell? ⟨w.heap.size, 0, none⟩ = some (.pointer (some ⟨g, 0, none⟩)) := (cell_heap (heap_alloc_new w _) 0).trans rfl
  have hxT : ∀ k, (Value.slice t.tA t.tabs.length t.tk).ownBlock = some k → k < w.heap.size := fun k hk => (hO.t.blk k hk).2
  subst hl
  refine (delI_any t.tA t.tabs.length t.tk t.tabs w.heap.size g t.x _ hO1.t (by omega) hbx (hN1.cell 9) (fun e => by have := hxT _ e; omega) (fun e => hN.ne hO.t (by decide) e) (by omega) (by omega)).mono ?_
  rintro e y ⟨m, c1, rfl, hm, hoI, hon⟩
  obtain ⟨k1, k2, k3⟩ := tabs_put hN1 hO1 hon hoI hm
  refine ⟨m, c1, rfl, ?_, k1.cell 28, k1.free 28, k1.lt, k2, k3, ?_⟩
  · exact (World.cell?_of_block (hon.block w.heap.size (by omega) (fun e => by have := hxT _ e; omega))).trans hbx
  · have hb : Below B w (w.alloc (.cells #[.pointer (some ⟨g, 0, none⟩)] 93)).drew := (ha.mono (by omega)).drew
    exact (Only.below_ hon hb (by omega) (fun k hk => (hO.t.blk k hk).1)).setCell hB _
theorem removeTabs_any (t : ScrS) (g B : Nat) (A : Option Addr) (n c : Nat) (zs : List Int) (w : World) (h : SqIn t g B A n c zs w) :
    Calls Tryz.prog 140 #[.pointer (some ⟨g, 0, none⟩), .slice A n c] w (Mth B g (tabsOff t.data (argV zs 0 0)) w) := by
  have HN := hid h.r
  have HO := hid h.o
  have hB := h.B
  have hgl := h.r.lt
  obtain ⟨k0, hk0⟩ : ∃ k0, k0 = argV zs 0 0 := ⟨_, rfl⟩
  obtain ⟨N, hl⟩ : ∃ N, N = t.tabs.length := ⟨_, rfl⟩
  have hNN : N ≤ 121 := by rw [hl]; exact ok_tabs h.k
  have HF := hid (fun V (hb : Below w.heap.size w V) => show Calls Tryz.prog 116 #[.slice A n c, .int .i64 0] V fun e w' => e = .returned (.int .i64 k0) ∧ V = w' from by rw [hk0]; exact first_any A n c zs 0 V ((h.a.below (Nat.le_refl _) hb).more hb.size) h.l h.n)
  have HW := hid ((Below.refl w.heap.size w).alloc (Nat.le_refl _) (.cells #[.pointer (some ⟨g, 0, none⟩)] 93))
  have HWB := hid ((Below.refl B w).alloc (by omega) (.cells #[.pointer (some ⟨g, 0, none⟩)] 93))
  have k28 : w.cell? ⟨g, 28, none⟩ = some (.slice t.tA N t.tk) := by rw [hl]; exact h.r.cell 28
  have hf := h.r.free
  have HD := hid (show tabsOff t.data (argV zs 0 0) = tabsOff t.data k0 from by rw [hk0])
  by_cases z0 : k0 = 0
  · subst z0
    have HC := hid (rmT_call t g B N w h.r h.o hl hNN hB)
    have HE := hid (show tabsOff t.data 0 = tabsD t.data (t.tabs.filter fun x => !decide (x = t.x)) from rfl)
    clear h hl hk0
    go_enter Tryz.func140, Tryz.ntmps140
    go_wp2_with fail
    refine (HF.out _ HW.out).mono ?_
    rintro e v0 ⟨rfl, rfl⟩
    go_upto_region 3 with fail
    go_region_with ((go_at_call 159; (with_reducible refine HC.out.mono ?_); rintro e y ⟨m, c1, rfl, qbx, q28, q28f, hgy, hK⟩; have K := hid hK; clear hK))
    all_goals
      clear HC HF
      go_wp2_with fail
      go_end0
      exact ⟨rfl, _, K.out.1, K.out.2.1, HE.out.symm.trans HD.out.symm, K.out.2.2⟩
  by_cases z3 : k0 = 3
  · subst z3
    have HE := hid (show tabsOff t.data 3 = tabsD t.data [] from rfl)
    clear h hl hk0
    go_enter Tryz.func140, Tryz.ntmps140
    go_wp2_with fail
    refine (HF.out _ HW.out).mono ?_
    rintro e v0 ⟨rfl, rfl⟩
    clear HF
    go_wp2_with fail
    go_end0
    obtain ⟨o2, b2⟩ := fld_mid HN.out HO.out hB (Only.cell_ (S := fun i => i = g) w g 28 (.slice none 0 0) rfl)
    have o3 : OwnS (w.setCell ⟨g, 28, none⟩ (.slice none 0 0)) B { t with tA := none, tk := 0, tabs := [] } := ⟨o2.c, World.ownsRow_nil _ _ _ _, o2.r⟩
    have h3 := (Below.refl (w.setCell ⟨g, 28, none⟩ (.slice none 0 0)).heap.size (w.setCell ⟨g, 28, none⟩ (.slice none 0 0))).alloc (Nat.le_refl _) (.cells #[.pointer (some ⟨g, 0, none⟩)] 93)
    exact ⟨rfl, { t with tA := none, tk := 0, tabs := [] }, RowN.alloc (RowN.s_tabs (A := none) (c := 0) (zs := []) HN.out) _, o3.below (Nat.le_refl _) h3, HE.out.symm.trans HD.out.symm, b2.alloc (by simp; omega) _⟩
  have HE := hid (show tabsOff t.data k0 = t.data from by unfold tabsOff; rw [if_neg z0, if_neg z3])
  clear h hl hk0
  go_enter Tryz.func140, Tryz.ntmps140
  go_wp2_with fail
  refine (HF.out _ HW.out).mono ?_
  rintro e v0 ⟨rfl, rfl⟩
  clear HF
  go_wp2_with fail
  go_end0
  exact ⟨rfl, t, HN.out.alloc _, HO.out.below (Nat.le_refl _) HW.out, HE.out.symm.trans HD.out.symm, HWB.out⟩
end Go.Proofs.YtgnpgkkjcloghaaGreat.Sc
namespace Go.Proofs.YtgnpgkkjcloghaaGreat.Sc
open Lib
open Go.RowKit Bytes Rows_ RowK Gr DOk Opq Attr
attribute [local go_sem ↓] Sc.exec_storeS Sc.exec_loadS
attribute [local go_sem] blkOf_ptr isHead_ptr aggN_agg setRow_alloc rowZ_at rowZ_past scrA_size nsA_size one_scr rowOf_alloc_at rowOf_alloc_past rowOf_drew ns_pre
attribute [local go_sem] sa_w sa_h sa_mw sa_mh sa_M sa_aw sa_ah sa_A sa_onAlt sa_x sa_y sa_wrap sa_fg sa_bg sa_b sa_u sa_t sa_top sa_bot sa_noWrap sa_hide sa_sx sa_sy sa_sfg sa_sbg sa_sb sa_su sa_st sa_tabs sa_lim sa_rows
attribute [local go_sem] ns_w ns_h ns_mw ns_mh ns_M ns_aw ns_ah ns_A ns_onAlt ns_x ns_y ns_wrap ns_fg ns_bg ns_b ns_u ns_t ns_top ns_bot ns_noWrap ns_hide ns_sx ns_sy ns_sfg ns_sbg ns_sb ns_su ns_st ns_tabs ns_lim ns_rows
attribute [local go_sem] ns_at0 ns_at1 ns_at2 ns_at3 ns_at4 ns_at5 ns_at6 ns_at7 ns_at8 ns_at9 ns_at10 ns_at11 ns_at12 ns_at13 ns_at14 ns_at15 ns_at16 ns_at17 ns_at18 ns_at19 ns_at20 ns_at21 ns_at22 ns_at23 ns_at24 ns_at25 ns_at26 ns_at27 ns_at28 ns_at29 ns_at30 ns_at31 ns_at32 ns_at33 ns_at34 ns_at35 ns_at36 ns_at37
attribute [local go_sem] scr_at0 scr_at1 scr_at2 scr_at3 scr_at4 scr_at5 scr_at6 scr_at7 scr_at8 scr_at9 scr_at10 scr_at11 scr_at12 scr_at13 scr_at14 scr_at15 scr_at16 scr_at17 scr_at18 scr_at19 scr_at20 scr_at21 scr_at22 scr_at23 scr_at24 scr_at25 scr_at26 scr_at27 scr_at28 scr_at29 scr_at30
theorem SqIn.below {t : ScrS} {g B n c : Nat} {A : Option Addr} {zs : List Int} {w V : World} (h : SqIn t g B A n c zs w) (hb : Below w.heap.size w V) : SqIn t g B A n c zs V :=
  ⟨h.r.below hb h.r.lt, h.o.below (Nat.le_refl _) hb, h.k, h.B, (h.a.below (Nat.le_refl _) hb).more hb.size, h.l, h.z⟩
theorem SqIn.keep {t : ScrS} {g B n c : Nat} {A : Option Addr} {zs : List Int} {w v : World} {d : ScrD} (h : SqIn t g B A n c zs w) (hb : Below w.heap.size w v) (hd : t.data = d) : ∃ t', RowN v g t' ∧ OwnS v B t' ∧ t'.data = d ∧ Below B w v :=
  ⟨t, h.r.below hb h.r.lt, h.o.below (Nat.le_refl _) hb, hd, hb.mono (by have := h.B; have := h.r.lt; omega)⟩
theorem cs_run {t : ScrS} {g B n c : Nat} {A : Option Addr} {zs : List Int} {w : World} (h : SqIn t g B A n c zs w) (mark : Bool) (b : Int) (f : Nat) (d : ScrD) (hb : (Lit.int .i64 b).wf = true) (eg : ∀ args w, (callFunc f args).run Tryz.prog w = .ok (.enter f args) w)
    (hv : pickQ b (.agg #[.bool false, .nilFunc]) seqL = .agg #[.bool mark, .func (.func f) #[] #[]]) (hh : hasQ b seqL = true)
    (HQ : ∀ V, SqIn t g B A n c zs V → Below w.heap.size w V → Calls Tryz.prog f #[.pointer (some ⟨g, 0, none⟩), .slice A n c] V (Mth B g d V)) :
    Calls Tryz.prog 79 #[.pointer (some ⟨g, 0, none⟩), .bool mark, .slice A n c, .int .i64 b] w (Mth B g d w) := by
  have hBw : B ≤ w.heap.size := by have := h.B; have := h.r.lt; omega
  refine (cs_hit g A n c mark b w f (fun v => ∃ t', RowN v g t' ∧ OwnS v B t' ∧ t'.data = d ∧ Below B w v) hb eg hv hh (fun V hV => (HQ V (h.below hV) hV).mono ?_)).mono ?_
  · rintro e v ⟨he, t', h1, h2, h3, h4⟩
    exact ⟨he, t', h1, h2, h3, (hV.mono hBw).trans h4⟩
  · rintro e v ⟨he, hk⟩
    exact ⟨he, hk⟩
theorem cs_other {t : ScrS} {g B n c : Nat} {A : Option Addr} {zs : List Int} {w : World} (h : SqIn t g B A n c zs w) (mark m0 : Bool) (b : Int) (f : Nat) (d : ScrD) (hb : (Lit.int .i64 b).wf = true)
    (hv : pickQ b (.agg #[.bool false, .nilFunc]) seqL = .agg #[.bool m0, .func (.func f) #[] #[]]) (hh : hasQ b seqL = true) (hm : (m0 == mark) = false) (hd : t.data = d) :
    Calls Tryz.prog 79 #[.pointer (some ⟨g, 0, none⟩), .bool mark, .slice A n c, .int .i64 b] w (Mth B g d w) := by
  refine (cs_mark g A n c mark b w m0 f hb hv hh hm).mono ?_
  rintro e v ⟨he, hk⟩
  exact ⟨he, h.keep hk hd⟩
theorem csi_any (t : ScrS) (g B : Nat) (A : Option Addr) (n c : Nat) (zs : List Int) (mark : Bool) (b : Int) (w : World) (h : SqIn t g B A n c zs w) (ha : RdI w B A zs) (hb : (Lit.int .i64 b).wf = true) :
    Calls Tryz.prog 79 #[.pointer (some ⟨g, 0, none⟩), .bool mark, .slice A n c, .int .i64 b] w (Mth B g (csiD t.data mark zs b) w) := by
  have hBw : B ≤ w.heap.size := by have := h.B; have := h.r.lt; omega
  by_cases h65 : b = 65
  · subst h65
    cases mark
    · exact cs_run h false 65 115 (csiD t.data false zs 65) hb (enters_of Tryz.func115 (by kernel_rfl) rfl) rfl rfl (fun V hV _ => seq1_any t g B A n c zs V hV)
    · exact cs_other h true false 65 115 (csiD t.data true zs 65) hb rfl rfl rfl rfl
  by_cases h66 : b = 66
  · subst h66
    cases mark
    · exact cs_run h false 66 117 (csiD t.data false zs 66) hb (enters_of Tryz.func117 (by kernel_rfl) rfl) rfl rfl (fun V hV _ => seq2_any t g B A n c zs V hV)
    · exact cs_other h true false 66 117 (csiD t.data true zs 66) hb rfl rfl rfl rfl
  by_cases h67 : b = 67
  · subst h67
    cases mark
    · exact cs_run h false 67 118 (csiD t.data false zs 67) hb (enters_of Tryz.func118 (by kernel_rfl) rfl) rfl rfl (fun V hV _ => seq3_any t g B A n c zs V hV)
    · exact cs_other h true false 67 118 (csiD t.data true zs 67) hb rfl rfl rfl rfl
  by_cases h68 : b = 68
  · subst h68
    cases mark
    · exact cs_run h false 68 119 (csiD t.data false zs 68) hb (enters_of Tryz.func119 (by kernel_rfl) rfl) rfl rfl (fun V hV _ => seq4_any t g B A n c zs V hV)
    · exact cs_other h true false 68 119 (csiD t.data true zs 68) hb rfl rfl rfl rfl
  by_cases h71 : b = 71
  · subst h71
    cases mark
    · exact cs_run h false 71 120 (csiD t.data false zs 71) hb (enters_of Tryz.func120 (by kernel_rfl) rfl) rfl rfl (fun V hV _ => seq5_any t g B A n c zs V hV)
    · exact cs_other h true false 71 120 (csiD t.data true zs 71) hb rfl rfl rfl rfl
  by_cases h100 : b = 100
  · subst h100
    cases mark
    · exact cs_run h false 100 121 (csiD t.data false zs 100) hb (enters_of Tryz.func121 (by kernel_rfl) rfl) rfl rfl (fun V hV _ => seq6_any t g B A n c zs V hV)
    · exact cs_other h true false 100 121 (csiD t.data true zs 100) hb rfl rfl rfl rfl
  by_cases h72 : b = 72
  · subst h72
    cases mark
    · exact cs_run h false 72 122 (csiD t.data false zs 72) hb (enters_of Tryz.func122 (by kernel_rfl) rfl) rfl rfl (fun V hV _ => moveToPlace_any t g B A n c zs V hV)
    · exact cs_other h true false 72 122 (csiD t.data true zs 72) hb rfl rfl rfl rfl
  by_cases h102 : b = 102
  · subst h102
    cases mark
    · exact cs_run h false 102 122 (csiD t.data false zs 102) hb (enters_of Tryz.func122 (by kernel_rfl) rfl) rfl rfl (fun V hV _ => moveToPlace_any t g B A n c zs V hV)
    · exact cs_other h true false 102 122 (csiD t.data true zs 102) hb rfl rfl rfl rfl
  by_cases h74 : b = 74
  · subst h74
    cases mark
    · exact cs_run h false 74 123 (csiD t.data false zs 74) hb (enters_of Tryz.func123 (by kernel_rfl) rfl) rfl rfl (fun V hV _ => seq7_any t g B A n c zs V hV)
    · exact cs_other h true false 74 123 (csiD t.data true zs 74) hb rfl rfl rfl rfl
  by_cases h75 : b = 75
  · subst h75
    cases mark
    · exact cs_run h false 75 125 (csiD t.data false zs 75) hb (enters_of Tryz.func125 (by kernel_rfl) rfl) rfl rfl (fun V hV _ => seq8_any t g B A n c zs V hV)
    · exact cs_other h true false 75 125 (csiD t.data true zs 75) hb rfl rfl rfl rfl
  by_cases h88 : b = 88
  · subst h88
    cases mark
    · exact cs_run h false 88 126 (csiD t.data false zs 88) hb (enters_of Tryz.func126 (by kernel_rfl) rfl) rfl rfl (fun V hV _ => seq9_any t g B A n c zs V hV)
    · exact cs_other h true false 88 126 (csiD t.data true zs 88) hb rfl rfl rfl rfl
  by_cases h64 : b = 64
  · subst h64
    cases mark
    · exact cs_run h false 64 129 (csiD t.data false zs 64) hb (enters_of Tryz.func129 (by kernel_rfl) rfl) rfl rfl (fun V hV _ => seq10_any t g B A n c zs V hV)
    · exact cs_other h true false 64 129 (csiD t.data true zs 64) hb rfl rfl rfl rfl
  by_cases h80 : b = 80
  · subst h80
    cases mark
    · exact cs_run h false 80 131 (csiD t.data false zs 80) hb (enters_of Tryz.func131 (by kernel_rfl) rfl) rfl rfl (fun V hV _ => seq11_any t g B A n c zs V hV)
    · exact cs_other h true false 80 131 (csiD t.data true zs 80) hb rfl rfl rfl rfl
  by_cases h76 : b = 76
  · subst h76
    cases mark
    · exact cs_run h false 76 132 (csiD t.data false zs 76) hb (enters_of Tryz.func132 (by kernel_rfl) rfl) rfl rfl (fun V hV _ => seq12_any t g B A n c zs V hV)
    · exact cs_other h true false 76 132 (csiD t.data true zs 76) hb rfl rfl rfl rfl
  by_cases h77 : b = 77
  · subst h77
    cases mark
    · exact cs_run h false 77 134 (csiD t.data false zs 77) hb (enters_of Tryz.func134 (by kernel_rfl) rfl) rfl rfl (fun V hV _ => seq13_any t g B A n c zs V hV)
    · exact cs_other h true false 77 134 (csiD t.data true zs 77) hb rfl rfl rfl rfl
  by_cases h83 : b = 83
  · subst h83
    cases mark
    · exact cs_run h false 83 135 (csiD t.data false zs 83) hb (enters_of Tryz.func135 (by kernel_rfl) rfl) rfl rfl (fun V hV _ => seq14_any t g B A n c zs V hV)
    · exact cs_other h true false 83 135 (csiD t.data true zs 83) hb rfl rfl rfl rfl
  by_cases h84 : b = 84
  · subst h84
    cases mark
    · exact cs_run h false 84 136 (csiD t.data false zs 84) hb (enters_of Tryz.func136 (by kernel_rfl) rfl) rfl rfl (fun V hV _ => seq15_any t g B A n c zs V hV)
    · exact cs_other h true false 84 136 (csiD t.data true zs 84) hb rfl rfl rfl rfl
  by_cases h109 : b = 109
  · subst h109
    cases mark
    · exact cs_run h false 109 137 (csiD t.data false zs 109) hb (enters_of Tryz.func137 (by kernel_rfl) rfl) rfl rfl (fun V hV _ => seq16_any t g B A n c zs V hV)
    · exact cs_other h true false 109 137 (csiD t.data true zs 109) hb rfl rfl rfl rfl
  by_cases h114 : b = 114
  · subst h114
    cases mark
    · exact cs_run h false 114 139 (csiD t.data false zs 114) hb (enters_of Tryz.func139 (by kernel_rfl) rfl) rfl rfl (fun V hV _ => setRegion_any t g B A n c zs V hV)
    · exact cs_other h true false 114 139 (csiD t.data true zs 114) hb rfl rfl rfl rfl
  by_cases h103 : b = 103
  · subst h103
    cases mark
    · exact cs_run h false 103 140 (csiD t.data false zs 103) hb (enters_of Tryz.func140 (by kernel_rfl) rfl) rfl rfl (fun V hV _ => removeTabs_any t g B A n c zs V hV)
    · exact cs_other h true false 103 140 (csiD t.data true zs 103) hb rfl rfl rfl rfl
  by_cases h104 : b = 104
  · subst h104
    cases mark
    · exact cs_other h false true 104 141 (csiD t.data false zs 104) hb rfl rfl rfl rfl
    · exact cs_run h true 104 141 (csiD t.data true zs 104) hb (enters_of Tryz.func141 (by kernel_rfl) rfl) rfl rfl (fun V hV hB => seq17_any t g B A n c zs V hV (ha.below (Nat.le_refl _) (hB.mono hBw)))
  by_cases h108 : b = 108
  · subst h108
    cases mark
    · exact cs_other h false true 108 143 (csiD t.data false zs 108) hb rfl rfl rfl rfl
    · exact cs_run h true 108 143 (csiD t.data true zs 108) hb (enters_of Tryz.func143 (by kernel_rfl) rfl) rfl rfl (fun V hV hB => seq18_any t g B A n c zs V hV (ha.below (Nat.le_refl _) (hB.mono hBw)))
  refine (cs_none g A n c mark b w hb (by unfold seqL; simp only [pickQ]; rw [if_neg h108, if_neg h104, if_neg h103, if_neg h114, if_neg h109, if_neg h84, if_neg h83, if_neg h77, if_neg h76, if_neg h80, if_neg h64, if_neg h88, if_neg h75, if_neg h74, if_neg h102, if_neg h72, if_neg h100, if_neg h71, if_neg h68, if_neg h67, if_neg h66, if_neg h65]) (by unfold seqL; simp only [hasQ]; rw [if_neg h108, if_neg h104, if_neg h103, if_neg h114, if_neg h109, if_neg h84, if_neg h83, if_neg h77, if_neg h76, if_neg h80, if_neg h64, if_neg h88, if_neg h75, if_neg h74, if_neg h102, if_neg h72, if_neg h100, if_neg h71, if_neg h68, if_neg h67, if_neg h66, if_neg h65])).mono ?_
  rintro e v ⟨he, hk⟩
  refine ⟨he, h.keep hk ?_⟩
  cases mark
  · show t.data = csiP t.data zs b
    unfold csiP
    rw [if_neg h65, if_neg h66, if_neg h67, if_neg h68, if_neg h71, if_neg h100, if_neg (by omega), if_neg h74, if_neg h75, if_neg h88, if_neg h64, if_neg h80, if_neg h76, if_neg h77, if_neg h83, if_neg h84, if_neg h109, if_neg h114, if_neg h103]
  · show t.data = (if b = 104 ∨ b = 108 then modesD t.data zs (decide (b = 104)) else t.data)
    rw [if_neg (by omega)]
end Go.Proofs.YtgnpgkkjcloghaaGreat.Sc
