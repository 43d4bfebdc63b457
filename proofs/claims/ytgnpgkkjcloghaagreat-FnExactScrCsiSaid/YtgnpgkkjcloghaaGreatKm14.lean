/- Texts that lay in modules of their own: KiU, CsB. -/
import Derived.Test.YtgnpgkkjcloghaaGreatCsA
set_option maxRecDepth 100000
set_option maxHeartbeats 3200000
set_option linter.unusedVariables false
namespace Go.Proofs.YtgnpgkkjcloghaaGreat.Sc
open Lib
open Go.RowKit Bytes Rows_ RowK Gr DOk Opq Attr
attribute [local go_sem ↓] Sc.exec_storeS Sc.exec_loadS
attribute [local go_sem] blkOf_ptr isHead_ptr aggN_agg setRow_alloc rowZ_at rowZ_past scrA_size nsA_size one_scr rowOf_alloc_at rowOf_alloc_past rowOf_drew ns_pre
attribute [local go_sem] sa_w sa_h sa_mw sa_mh sa_M sa_aw sa_ah sa_A sa_onAlt sa_x sa_y sa_wrap sa_fg sa_bg sa_b sa_u sa_t sa_top sa_bot sa_noWrap sa_hide sa_sx sa_sy sa_sfg sa_sbg sa_sb sa_su sa_st sa_tabs sa_lim sa_rows
attribute [local go_sem] ns_w ns_h ns_mw ns_mh ns_M ns_aw ns_ah ns_A ns_onAlt ns_x ns_y ns_wrap ns_fg ns_bg ns_b ns_u ns_t ns_top ns_bot ns_noWrap ns_hide ns_sx ns_sy ns_sfg ns_sbg ns_sb ns_su ns_st ns_tabs ns_lim ns_rows
attribute [local go_sem] ns_at0 ns_at1 ns_at2 ns_at3 ns_at4 ns_at5 ns_at6 ns_at7 ns_at8 ns_at9 ns_at10 ns_at11 ns_at12 ns_at13 ns_at14 ns_at15 ns_at16 ns_at17 ns_at18 ns_at19 ns_at20 ns_at21 ns_at22 ns_at23 ns_at24 ns_at25 ns_at26 ns_at27 ns_at28 ns_at29 ns_at30 ns_at31 ns_at32 ns_at33 ns_at34 ns_at35 ns_at36 ns_at37
attribute [local go_sem] scr_at0 scr_at1 scr_at2 scr_at3 scr_at4 scr_at5 scr_at6 scr_at7 scr_at8 scr_at9 scr_at10 scr_at11 scr_at12 scr_at13 scr_at14 scr_at15 scr_at16 scr_at17 scr_at18 scr_at19 scr_at20 scr_at21 scr_at22 scr_at23 scr_at24 scr_at25 scr_at26 scr_at27 scr_at28 scr_at29 scr_at30
theorem rowSh_any (t : ScrS) (g B : Nat) (w : World) (W H y q : Nat) (hg : RowN w g t) (ho : OwnS w B t) (r : Rol t W H) (hq : (shC t).A = some ⟨q, 0, none⟩) (hy : y < H) :
    Calls Tryz.prog 110 #[.pointer (some ⟨g, offS t, none⟩), .int .i64 (y : Int)] w fun e w' => e = .returned (.slice (some ⟨q, y * W * 6, none⟩) W ((shC t).c - y * W)) ∧ Below w.heap.size w w' := by
  have hyl : y * W + W ≤ (shC t).cs.length := by
    rw [r.n, Nat.mul_comm W H]
    have := Nat.mul_le_mul_right W (show y + 1 ≤ H by omega)
    rw [Nat.add_mul, Nat.one_mul] at this; exact this
  have c0 : w.cell? ⟨g, offS t, none⟩ = some (.int .i64 (W : Int)) := by
    rw [← r.w]; unfold shW offS; cases t.onAlt
    · exact hg.cell 31
    · exact hg.cell 35
  have c1 : w.cell? ⟨g, offS t + 1, none⟩ = some (.int .i64 (shH t)) := by
    unfold shH offS; cases t.onAlt
    · exact hg.cell 32
    · exact hg.cell 36
  have c2 : w.cell? ⟨g, offS t + 2, none⟩ = some (.slice (some ⟨q, 0, none⟩) (shC t).cs.length (shC t).c) := by
    rw [← hq]; unfold shC offS; cases t.onAlt
    · exact hg.cell 33
    · exact hg.cell 37
  have hcap := (sh_addr ho).cap
  have hn : (shC t).cs.length ≤ 1048576 := by rw [r.n]; have := r.wh; omega
  have hw1 := r.w1; have hh2 := r.h2
  have HC := hid (rowOf_any W (shH t) q 0 (shC t).cs.length (shC t).c y w hw1 hyl (by omega) hcap.1 (by omega) (by have := hcap.2; omega))
  rw [Nat.zero_add] at HC
  obtain ⟨k, hk⟩ : ∃ k : Nat, k = offS t := ⟨_, rfl⟩
  rw [← hk] at c0 c1 c2 ⊢
  clear hk hg ho hq hyl hcap r hn
  go_enter Tryz.func110, Tryz.ntmps110
  go_wp2_with fail
  refine HC.out.mono ?_
  rintro e v ⟨rfl, hb⟩
  have HB := hid hb
  clear hb c0 c1 c2 HC
  go_wp2_with fail
  go_ret
  exact ⟨rfl, HB.out⟩
def prL (a m : Nat) (k : Int) : Nat × Nat := if k = 0 then (a, m - a) else if k = 1 then (0, a + 1) else if k = 2 then (0, m) else (0, 0)
theorem only_q {S : Nat → Prop} {w v : World} {q : Nat} (h : Only (fun i => i = q) w v) (hs : S q) : Only S w v := h.mono (fun i e => e ▸ hs)
theorem shown_end {t : ScrS} {g B q : Nat} {w w1 v : World} {cs : List CellD} {d : ScrD} (hg : RowN w g t) (ho : OwnS w B t) (hB : B ≤ g) (hb : Below w.heap.size w w1) (hq : (shC t).A = some ⟨q, 0, none⟩) (hl : cs.length = (shC t).cs.length)
    (hoc : OwnC v B (some ⟨q, 0, none⟩) (shC t).cs.length (shC t).c cs) (on : Only (fun i => i = q) w1 v) (hd : d = putD t.data cs) :
    ∃ t', RowN v g t' ∧ OwnS v B t' ∧ t'.data = d ∧ Below B w v := by
  have hg1 := hg.below hb hg.lt
  have ho1 := ho.below (Nat.le_refl _) hb
  have hbq : blkS (shC t) = some q := by unfold blkS; rw [hq]; rfl
  have on' : Only (fun i => blkS (shC t) = some i) w1 v := only_q on hbq
  have hBw : B ≤ w.heap.size := by have := hg.lt; omega
  refine ⟨_, rowN_put (hg1.only on' (fun e => hg1.apart ho1 (sh_ss e))) hl, own_shown ho1 hl (by rw [hq]; exact hoc) on', put_data.trans hd.symm, ?_⟩
  have h1 : Below B w w1 := hb.mono hBw
  exact Only.below_ on h1 (by have := hb.size; omega) (fun i hi => by subst hi; exact (ho.blk i (sh_ss hbq)).1)
theorem erasePart_any (q lo m c' a : Nat) (k : Int) {base n c : Nat} {cs : List CellD} (w : World) (h : OwnC w base (some ⟨q, 0, none⟩) n c cs) (hlm : lo + m ≤ n) (hn : n ≤ 2097152) (ha : a < m) (hmc : m ≤ c') (hc : c' ≤ 9223372036854775807) :
    Calls Tryz.prog 124 #[.slice (some ⟨q, lo * 6, none⟩) m c', .int .i64 (a : Int), .int .i64 k] w fun e w' => e = .returned (.tuple #[]) ∧ OwnC w' base (some ⟨q, 0, none⟩) n c (over cs (lo + (prL a m k).1) (List.replicate (prL a m k).2 blankC)) ∧ Only (fun i => i = q) w w' := by
  have hca : ¬ c' = a := by omega
  have hca' : ¬ c' - a = 0 := by omega
  have hc0 : ¬ c' = 0 := by omega
  have ham : (a : Int) ≤ (m : Int) := by omega
  have hac : (a : Int) + 1 ≤ (c' : Int) := by omega
  have e1 : IntKind.i64.wrap ((a : Int) + 1) = (a : Int) + 1 := IntWalk.i64_in _ (by omega)
  by_cases h0 : k = 0
  · subst h0
    have HE := hid (fun c2 => show Calls Tryz.prog 157 #[.slice (some ⟨q, lo * 6 + a * 6, none⟩) (m - a) c2] w fun e w' => e = .returned (.tuple #[]) ∧ OwnC w' base (some ⟨q, 0, none⟩) n c (over cs (lo + (prL a m 0).1) (List.replicate (prL a m 0).2 blankC)) ∧ Only (fun i => i = q) w w' from by
      rw [← Nat.add_mul]; exact erase_any (some ⟨q, (lo + a) * 6, none⟩) (lo + a) (m - a) c2 w h (by omega) hn (fun _ => rfl))
    clear h
    go_enter Tryz.func124, Tryz.ntmps124
    go_wp2_with fail
    refine (HE.out _).mono ?_
    rintro e v ⟨rfl, ho, on⟩
    have K := hid (And.intro ho on)
    clear ho on HE
    go_wp2_with fail
    go_end0
    exact ⟨rfl, K.out⟩
  by_cases h1 : k = 1
  · subst h1
    have HE := hid (fun c2 => show Calls Tryz.prog 157 #[.slice (some ⟨q, lo * 6, none⟩) (a + 1) c2] w fun e w' => e = .returned (.tuple #[]) ∧ OwnC w' base (some ⟨q, 0, none⟩) n c (over cs (lo + (prL a m 1).1) (List.replicate (prL a m 1).2 blankC)) ∧ Only (fun i => i = q) w w' from
      erase_any (some ⟨q, lo * 6, none⟩) lo (a + 1) c2 w h (by omega) hn (fun _ => rfl))
    clear h
    go_enter Tryz.func124, Tryz.ntmps124
    go_wp2_with fail
    refine (HE.out _).mono ?_
    rintro e v ⟨rfl, ho, on⟩
    have K := hid (And.intro ho on)
    clear ho on HE
    go_wp2_with fail
    go_end0
    exact ⟨rfl, K.out⟩
  by_cases h2 : k = 2
  · subst h2
    have HE := hid (fun c2 => show Calls Tryz.prog 157 #[.slice (some ⟨q, lo * 6, none⟩) m c2] w fun e w' => e = .returned (.tuple #[]) ∧ OwnC w' base (some ⟨q, 0, none⟩) n c (over cs (lo + (prL a m 2).1) (List.replicate (prL a m 2).2 blankC)) ∧ Only (fun i => i = q) w w' from
      erase_any (some ⟨q, lo * 6, none⟩) lo m c2 w h (by omega) hn (fun _ => rfl))
    clear h
    go_enter Tryz.func124, Tryz.ntmps124
    go_wp2_with fail
    refine (HE.out _).mono ?_
    rintro e v ⟨rfl, ho, on⟩
    have K := hid (And.intro ho on)
    clear ho on HE
    go_wp2_with fail
    go_end0
    exact ⟨rfl, K.out⟩
  have HP := hid (show prL a m k = (0, 0) by unfold prL; rw [if_neg h0, if_neg h1, if_neg h2])
  have HO := hid h
  clear h
  go_enter Tryz.func124, Tryz.ntmps124
  go_wp2_with fail
  go_end0
  refine ⟨rfl, ?_, Only.refl _ _⟩
  rw [HP.out, List.replicate_zero, over_nil]; exact HO.out
theorem eraseFirst_any (q lo m c' : Nat) (k : Int) {base n c : Nat} {cs : List CellD} (w : World) (h : OwnC w base (some ⟨q, 0, none⟩) n c cs) (hlm : lo + m ≤ n) (hn : n ≤ 2097152) (hk : 1 ≤ k) (hk2 : k ≤ 9999) (hm : 1 ≤ m) (hmc : m ≤ c') (hc : c' ≤ 9223372036854775807) :
    Calls Tryz.prog 127 #[.slice (some ⟨q, lo * 6, none⟩) m c', .int .i64 k] w fun e w' => e = .returned (.tuple #[]) ∧ OwnC w' base (some ⟨q, 0, none⟩) n c (over cs lo (List.replicate (min k (m : Int)).toNat blankC)) ∧ Only (fun i => i = q) w w' := by
  obtain ⟨j, hj⟩ : ∃ j : Nat, min k (m : Int) = (j : Int) := ⟨(min k (m : Int)).toNat, by omega⟩
  have hjm : j ≤ m := by omega
  have HE := hid (fun c2 => show Calls Tryz.prog 157 #[.slice (some ⟨q, lo * 6, none⟩) j c2] w fun e w' => e = .returned (.tuple #[]) ∧ OwnC w' base (some ⟨q, 0, none⟩) n c (over cs lo (List.replicate (min k (m : Int)).toNat blankC)) ∧ Only (fun i => i = q) w w' from by
    rw [hj, Int.toNat_natCast]; exact erase_any (some ⟨q, lo * 6, none⟩) lo j c2 w h (by omega) hn (fun _ => rfl))
  have hc0 : ¬ c' = 0 := by omega
  have hcase : ((m : Int) < k ∧ j = m) ∨ (¬ (m : Int) < k ∧ k = (j : Int)) := by omega
  clear h hj
  rcases hcase with ⟨hlt, rfl⟩ | ⟨hlt, rfl⟩
  all_goals
    go_enter Tryz.func127, Tryz.ntmps127
    go_wp2_with fail
    refine (HE.out _).mono ?_
    rintro e v ⟨rfl, ho, on⟩
    have K := hid (And.intro ho on)
    clear ho on HE
    go_wp2_with fail
    go_end0
    exact ⟨rfl, K.out⟩
theorem restOfRow_any (t : ScrS) (g B : Nat) (w : World) (W H X Y q : Nat) (hg : RowN w g t) (ho : OwnS w B t) (r : Rol t W H) (hq : (shC t).A = some ⟨q, 0, none⟩) (ex : t.x = (X : Int)) (ey : t.y = (Y : Int)) (hx : X < W) (hy : Y < H) :
    Calls Tryz.prog 128 #[.pointer (some ⟨g, 0, none⟩)] w fun e w' => ∃ c2, e = .returned (.slice (some ⟨q, (Y * W + X) * 6, none⟩) (W - X) c2) ∧ W - X ≤ c2 ∧ c2 ≤ 9223372036854775807 ∧ Below w.heap.size w w' := by
  have hyl : Y * W + W ≤ (shC t).cs.length := by
    rw [r.n, Nat.mul_comm W H]
    have := Nat.mul_le_mul_right W (show Y + 1 ≤ H by omega)
    rw [Nat.add_mul, Nat.one_mul] at this; exact this
  have hcap := (sh_addr ho).cap
  obtain ⟨cc, hcc⟩ : ∃ cc, cc = (shC t).c - Y * W := ⟨_, rfl⟩
  have hw : W ≤ cc := by omega
  have hc9 : cc ≤ 9223372036854775807 := by have := hcap.2; omega
  have k9 : w.cell? ⟨g, 9, none⟩ = some (.int .i64 (X : Int)) := by rw [← ex]; exact hg.cell 9
  have k10 : w.cell? ⟨g, 10, none⟩ = some (.int .i64 (Y : Int)) := by rw [← ey]; exact hg.cell 10
  have hgl := hg.lt
  have HSH := hid (shown_any t g w.drew hg.drew)
  have HRW := hid (show Calls Tryz.prog 110 #[.pointer (some ⟨g, offS t, none⟩), .int .i64 (Y : Int)] w.drew fun e v => e = .returned (.slice (some ⟨q, Y * W * 6, none⟩) W cc) ∧ Below w.heap.size w v ∧ v.cell? ⟨g, 9, none⟩ = some (.int .i64 (X : Int)) from (rowSh_any t g B w.drew W H Y q hg.drew ho.drew r hq hy).mono fun e v h => by
    obtain ⟨he, hb'⟩ := h
    have hb : Below w.heap.size w v := ⟨hb'.os, hb'.tape, hb'.output, hb'.size, hb'.block⟩
    rw [← hcc] at he
    exact ⟨he, hb, (hb.cell (p := ⟨g, 9, none⟩) hgl).trans k9⟩)
  have hne : ¬ cc = X := by omega
  have hne2 : ¬ cc - X = 0 := by omega
  have hxw : (X : Int) ≤ (W : Int) := by omega
  have hwc : (W : Int) ≤ (cc : Int) := by omega
  clear hg ho r hq ex ey hyl hcap hcc
  go_enter Tryz.func128, Tryz.ntmps128
  go_upto_region 1 with fail
  go_region_with (first
    | (go_at_call 94; (with_reducible refine HSH.out.mono ?_); rintro e v ⟨rfl, rfl⟩)
    | (go_at_call 110; (with_reducible refine HRW.out.mono ?_); rintro e v ⟨rfl, hbv, v9⟩; have HBV := hid hbv; clear hbv))
  all_goals
    go_wp2_with fail
    go_ret
    exact ⟨cc - X, by rw [Nat.add_mul]; rfl, by omega, by omega, HBV.out⟩
end Go.Proofs.YtgnpgkkjcloghaaGreat.Sc
