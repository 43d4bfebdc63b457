/- Texts that lay in modules of their own: CsC, CsJ. -/
import Derived.Test.YtgnpgkkjcloghaaGreatKm14
set_option maxRecDepth 100000
set_option maxHeartbeats 3200000
set_option linter.unusedVariables false
namespace Go.Proofs.YtgnpgkkjcloghaaGreat.Sc
open Lib
open Go.RowKit Bytes Rows_ RowK Gr DOk Opq Attr
attribute [local go_sem ↓] Sc.exec_storeS Sc.exec_loadS
attribute [local go_sem] blkOf_ptr isHead_ptr aggN_agg setRow_alloc rowZ_at rowZ_past scrA_size nsA_size one_scr rowOf_alloc_at rowOf_alloc_past rowOf_drew ns_pre
attribute [local go_sem] sa_w sa_h sa_mw sa_mh sa_M sa_aw sa_ah sa_A sa_onAlt sa_x sa_y sa_wrap sa_fg sa_bg sa_b sa_u sa_t sa_top sa_bot sa_noWrap sa_hide sa_sx sa_sy sa_sfg sa_sbg sa_sb sa_su sa_st sa_tabs sa_lim sa_rows
attribute [local go_sem] ns_w ns_h ns_mw ns_mh ns_M ns_aw ns_ah ns_A ns_onAlt ns_x ns_y ns_wrap ns_fg ns_bg ns_b ns_u ns_t ns_top ns_bot ns_noWrap ns_hide ns_sx ns_sy ns_sfg ns_sbg ns_sb ns_su ns_st ns_tabs ns_lim ns_rows
attribute [local go_sem] ns_at0 ns_at1 ns_at2 ns_at3 ns_at4 ns_at5 ns_at6 ns_at7 ns_at8 ns_at9 ns_at10 ns_at11 ns_at12 ns_at13 ns_at14 ns_at15 ns_at16 ns_at17 ns_at18 ns_at19 ns_at20 ns_at21 ns_at22 ns_at23 ns_at24 ns_at25 ns_at26 ns_at27 ns_at28 ns_at29 ns_at30 ns_at31 ns_at32 ns_at33 ns_at34 ns_at35 ns_at36 ns_at37
attribute [local go_sem] scr_at0 scr_at1 scr_at2 scr_at3 scr_at4 scr_at5 scr_at6 scr_at7 scr_at8 scr_at9 scr_at10 scr_at11 scr_at12 scr_at13 scr_at14 scr_at15 scr_at16 scr_at17 scr_at18 scr_at19 scr_at20 scr_at21 scr_at22 scr_at23 scr_at24 scr_at25 scr_at26 scr_at27 scr_at28 scr_at29 scr_at30
theorem put_sh (d : ScrD) : putD d (shD d) = d := by cases d with | mk a1 a2 a3 a4 a5 a6 a7 a8 a9 a10 a11 a12 a13 a14 a15 => (first | (cases a1 <;> rfl) | (cases a2 <;> rfl) | (cases a3 <;> rfl) | (cases a4 <;> rfl) | (cases a5 <;> rfl) | (cases a6 <;> rfl) | (cases a7 <;> rfl) | (cases a8 <;> rfl) | (cases a9 <;> rfl) | (cases a10 <;> rfl) | (cases a11 <;> rfl) | (cases a12 <;> rfl) | (cases a13 <;> rfl) | (cases a14 <;> rfl) | (cases a15 <;> rfl))
theorem erase_pr {d : ScrD} {lo a m : Nat} (h : atD d = lo + a) (ha : a < m) (k : Int) : eraseD d lo (lo + m) k = putD d (over (shD d) (lo + (prL a m k).1) (List.replicate (prL a m k).2 blankC)) := by
  unfold eraseD prL
  split
  · unfold blD; rw [h, show lo + m - (lo + a) = m - a by omega]
  · split
    · unfold blD; rw [h, show lo + a + 1 - lo = a + 1 by omega]; rfl
    · split
      · unfold blD; rw [show lo + m - lo = m by omega]; rfl
      · show d = putD d (over (shD d) (lo + 0) (List.replicate 0 blankC)); rw [List.replicate_zero, over_nil, put_sh]
theorem prL_le {a m : Nat} (ha : a < m) (k : Int) : (prL a m k).1 + (prL a m k).2 ≤ m := by
  unfold prL
  split
  · show a + (m - a) ≤ m; omega
  · split
    · show 0 + (a + 1) ≤ m; omega
    · split
      · show 0 + m ≤ m; omega
      · show 0 + 0 ≤ m; omega
theorem seq8_any (t : ScrS) (g B : Nat) (A : Option Addr) (n c : Nat) (zs : List Int) (w : World) (h : SqIn t g B A n c zs w) :
    Calls Tryz.prog 125 #[.pointer (some ⟨g, 0, none⟩), .slice A n c] w (Mth B g (eraseD t.data (t.y * t.w).toNat (t.y * t.w + t.w).toNat (argV zs 0 0)) w) := by
  have HN := hid h.r
  have HO := hid h.o
  have hB := h.B
  have hgl := h.r.lt
  obtain ⟨W, H, X, Y, T, Bt, L, fit⟩ := ok_fit h.k
  have r : Rol t W H := rol_of fit
  have ew : t.w = (W : Int) := fit.w
  have ex : t.x = (X : Int) := fit.x
  have ey : t.y = (Y : Int) := fit.y
  have q1 := fit.w1; have q2 := fit.w2; have q3 := fit.h1; have q4 := fit.h2; have q5 := fit.x2; have q6 := fit.y2; have q7 := fit.wh
  obtain ⟨f1, f2, f3⟩ := at_fit fit
  have hlen : (shC t).cs.length = W * H := r.n
  obtain ⟨q, hq⟩ := own_addr (sh_addr h.o) (by omega)
  have hcap := (sh_addr h.o).cap
  have HQ := hid hq
  have HSD := hid (sh_data t)
  have HOC := hid (fun V (hb : Below w.heap.size w V) => show OwnC V B (some ⟨q, 0, none⟩) (shC t).cs.length (shC t).c (shC t).cs from by have := sh_addr (h.o.below (Nat.le_refl _) hb); rw [hq] at this; exact this)
  have HFI := hid (fun V o (hb : Below w.heap.size w V) => first_any A n c zs o V ((h.a.below (Nat.le_refl _) hb).more hb.size) h.l h.n)
  obtain ⟨k0, hk0⟩ : ∃ k0, k0 = argV zs 0 0 := ⟨_, rfl⟩
  have HD := hid (show eraseD t.data (t.y * t.w).toNat (t.y * t.w + t.w).toNat (argV zs 0 0) = putD t.data (over (shC t).cs (Y * W + (prL X W k0).1) (List.replicate (prL X W k0).2 blankC)) from by
    rw [ew, ey, ← Int.natCast_mul, ← Int.natCast_add, Int.toNat_natCast, Int.toNat_natCast, ← hk0, erase_pr f1 q5 k0, HSD.out])
  have HL := hid (show (over (shC t).cs (Y * W + (prL X W k0).1) (List.replicate (prL X W k0).2 blankC)).length = (shC t).cs.length from over_len (by have := prL_le q5 k0; simp; omega))
  have k9 : w.cell? ⟨g, 9, none⟩ = some (.int .i64 (X : Int)) := by rw [← ex]; exact h.r.cell 9
  have k10 : w.cell? ⟨g, 10, none⟩ = some (.int .i64 (Y : Int)) := by rw [← ey]; exact h.r.cell 10
  obtain ⟨cc, hcc⟩ : ∃ cc, cc = (shC t).c - Y * W := ⟨_, rfl⟩
  have hw : W ≤ cc := by omega
  have hc9 : cc ≤ 9223372036854775807 := by have := hcap.2; omega
  have HSH := hid (shown_any t g w.drew h.r.drew)
  have HRW := hid (show Calls Tryz.prog 110 #[.pointer (some ⟨g, offS t, none⟩), .int .i64 (Y : Int)] w.drew fun e v => e = .returned (.slice (some ⟨q, Y * W * 6, none⟩) W cc) ∧ Below w.heap.size w v ∧ v.cell? ⟨g, 9, none⟩ = some (.int .i64 (X : Int)) from (rowSh_any t g B w.drew W H Y q h.r.drew h.o.drew r hq q6).mono fun e v h2 => by
    obtain ⟨he, hb'⟩ := h2
    have hb : Below w.heap.size w v := ⟨hb'.os, hb'.tape, hb'.output, hb'.size, hb'.block⟩
    rw [← hcc] at he
    exact ⟨he, hb, (hb.cell (p := ⟨g, 9, none⟩) hgl).trans k9⟩)
  have HF := hid (fun V (hb : Below w.heap.size w V) => show Calls Tryz.prog 116 #[.slice A n c, .int .i64 0] V fun e w' => e = .returned (.int .i64 k0) ∧ V = w' from by rw [hk0]; exact HFI.out V 0 hb)
  have HEP := hid (fun V (hb : Below w.heap.size w V) => show Calls Tryz.prog 124 #[.slice (some ⟨q, Y * W * 6, none⟩) W cc, .int .i64 (X : Int), .int .i64 k0] V fun e w' => e = .returned (.tuple #[]) ∧ ∃ t', RowN w' g t' ∧ OwnS w' B t' ∧ t'.data = eraseD t.data (t.y * t.w).toNat (t.y * t.w + t.w).toNat (argV zs 0 0) ∧ Below B w w' from by
    have hoc := HOC.out V hb
    refine (erasePart_any q (Y * W) W cc X k0 V hoc (by omega) (by omega) q5 hw hc9).mono ?_
    rintro e v ⟨rfl, ho, on⟩
    exact ⟨rfl, shown_end HN.out HO.out hB hb hq HL.out ho on HD.out⟩)
  clear h fit r ew ex ey hlen hcap hq f1 f2 f3 hk0 HL HD HOC HFI hcc
  go_enter Tryz.func125, Tryz.ntmps125
  go_upto_region 0 with fail
  go_region_with (first
    | (go_at_call 94; (with_reducible refine HSH.out.mono ?_); rintro e v0 ⟨rfl, rfl⟩)
    | (go_at_call 110; (with_reducible refine HRW.out.mono ?_); rintro e v ⟨rfl, hbv, v9⟩; have HBV := hid hbv; clear hbv)
    | (go_at_call 116; (with_reducible refine (HF.out _ ?_).mono ?_); (first | exact ⟨HBV.out.os, HBV.out.tape, HBV.out.output, HBV.out.size, HBV.out.block⟩ | exact ⟨rfl, rfl, rfl, Nat.le_refl _, fun _ _ => rfl⟩); rintro e v0 ⟨rfl, rfl⟩)
    | (go_at_call 124; (with_reducible refine (HEP.out _ ?_).mono ?_); exact ⟨HBV.out.os, HBV.out.tape, HBV.out.output, HBV.out.size, HBV.out.block⟩; rintro e v2 ⟨rfl, hK⟩; have K := hid hK; clear hK))
  all_goals
    clear HEP HSH HF HRW
    go_wp2_with fail
    go_end0
    exact ⟨rfl, K.out⟩
theorem seq9_any (t : ScrS) (g B : Nat) (A : Option Addr) (n c : Nat) (zs : List Int) (w : World) (h : SqIn t g B A n c zs w) :
    Calls Tryz.prog 126 #[.pointer (some ⟨g, 0, none⟩), .slice A n c] w (Mth B g (blD t.data (atD t.data) (min (argV zs 0 1) (t.w - t.x)).toNat) w) := by
  have HN := hid h.r
  have HO := hid h.o
  have hB := h.B
  have hgl := h.r.lt
  obtain ⟨W, H, X, Y, T, Bt, L, fit⟩ := ok_fit h.k
  have r : Rol t W H := rol_of fit
  have ew : t.w = (W : Int) := fit.w
  have ex : t.x = (X : Int) := fit.x
  have ey : t.y = (Y : Int) := fit.y
  have q1 := fit.w1; have q2 := fit.w2; have q3 := fit.h1; have q4 := fit.h2; have q5 := fit.x2; have q6 := fit.y2; have q7 := fit.wh
  obtain ⟨f1, f2, f3⟩ := at_fit fit
  have hlen : (shC t).cs.length = W * H := r.n
  obtain ⟨q, hq⟩ := own_addr (sh_addr h.o) (by omega)
  have hcap := (sh_addr h.o).cap
  have HQ := hid hq
  have HSD := hid (sh_data t)
  have HOC := hid (fun V (hb : Below w.heap.size w V) => show OwnC V B (some ⟨q, 0, none⟩) (shC t).cs.length (shC t).c (shC t).cs from by have := sh_addr (h.o.below (Nat.le_refl _) hb); rw [hq] at this; exact this)
  have HFI := hid (fun V o (hb : Below w.heap.size w V) => first_any A n c zs o V ((h.a.below (Nat.le_refl _) hb).more hb.size) h.l h.n)
  have hk1 := argV_bd h.z 0 (o := 1) (lo := 1) (hi := 9999) (by omega) (by omega) (by omega) (by omega)
  obtain ⟨k1, hk⟩ : ∃ k1, k1 = argV zs 0 1 := ⟨_, rfl⟩
  rw [← hk] at hk1
  have HD := hid (show blD t.data (atD t.data) (min (argV zs 0 1) (t.w - t.x)).toNat = putD t.data (over (shC t).cs (Y * W + X) (List.replicate (min k1 ((W - X : Nat) : Int)).toNat blankC)) from by
    unfold blD; rw [f1, ex, ew, HSD.out, ← hk, show (W : Int) - (X : Int) = ((W - X : Nat) : Int) by omega])
  have HL := hid (show (over (shC t).cs (Y * W + X) (List.replicate (min k1 ((W - X : Nat) : Int)).toNat blankC)).length = (shC t).cs.length from over_len (by (first | (rw [shiftL_len]; omega) | (simp; omega))))
  have HR := hid (restOfRow_any t g B w W H X Y q h.r h.o r hq ex ey q5 q6)
  have HF := hid (fun V (hb : Below w.heap.size w V) => show Calls Tryz.prog 116 #[.slice A n c, .int .i64 1] V fun e w' => e = .returned (.int .i64 k1) ∧ V = w' from by rw [hk]; exact HFI.out V 1 hb)
  have HCL := hid (fun V c2 (hb : Below w.heap.size w V) (h1 : W - X ≤ c2) (h2 : c2 ≤ 9223372036854775807) => show Calls Tryz.prog 127 #[.slice (some ⟨q, (Y * W + X) * 6, none⟩) (W - X) c2, .int .i64 (k1)] V fun e w' => e = .returned (.tuple #[]) ∧ ∃ t', RowN w' g t' ∧ OwnS w' B t' ∧ t'.data = blD t.data (atD t.data) (min (argV zs 0 1) (t.w - t.x)).toNat ∧ Below B w w' from by
    have hoc := HOC.out V hb
    refine (eraseFirst_any q (Y * W + X) (W - X) c2 k1 V hoc (by omega) (by omega) hk1.1 hk1.2 (by omega) h1 h2).mono ?_
    rintro e v ⟨rfl, ho, on⟩
    exact ⟨rfl, shown_end HN.out HO.out hB hb hq HL.out ho on HD.out⟩)
  clear h fit r ew ex ey hlen hcap hq f1 f2 f3 hk HL HD HOC HFI
  go_enter Tryz.func126, Tryz.ntmps126
  go_wp2_with fail
  refine HR.out.mono ?_
  rintro e v1 ⟨c2, rfl, h1, h2, hb1⟩
  have HB1 := hid hb1
  clear hb1 HR
  go_wp2_with fail
  refine (HF.out _ HB1.out).mono ?_
  rintro e v2 ⟨rfl, rfl⟩
  go_wp2_with fail
  refine (HCL.out _ c2 HB1.out h1 h2).mono ?_
  rintro e v ⟨rfl, hK⟩
  have K := hid hK
  clear hK HCL HF
  go_wp2_with fail
  go_end0
  exact ⟨rfl, K.out⟩
theorem seq10_any (t : ScrS) (g B : Nat) (A : Option Addr) (n c : Nat) (zs : List Int) (w : World) (h : SqIn t g B A n c zs w) :
    Calls Tryz.prog 129 #[.pointer (some ⟨g, 0, none⟩), .slice A n c] w (Mth B g (slideD t.data (argV zs 0 1)) w) := by
  have HN := hid h.r
  have HO := hid h.o
  have hB := h.B
  have hgl := h.r.lt
  obtain ⟨W, H, X, Y, T, Bt, L, fit⟩ := ok_fit h.k
  have r : Rol t W H := rol_of fit
  have ew : t.w = (W : Int) := fit.w
  have ex : t.x = (X : Int) := fit.x
  have ey : t.y = (Y : Int) := fit.y
  have q1 := fit.w1; have q2 := fit.w2; have q3 := fit.h1; have q4 := fit.h2; have q5 := fit.x2; have q6 := fit.y2; have q7 := fit.wh
  obtain ⟨f1, f2, f3⟩ := at_fit fit
  have hlen : (shC t).cs.length = W * H := r.n
  obtain ⟨q, hq⟩ := own_addr (sh_addr h.o) (by omega)
  have hcap := (sh_addr h.o).cap
  have HQ := hid hq
  have HSD := hid (sh_data t)
  have HOC := hid (fun V (hb : Below w.heap.size w V) => show OwnC V B (some ⟨q, 0, none⟩) (shC t).cs.length (shC t).c (shC t).cs from by have := sh_addr (h.o.below (Nat.le_refl _) hb); rw [hq] at this; exact this)
  have HFI := hid (fun V o (hb : Below w.heap.size w V) => first_any A n c zs o V ((h.a.below (Nat.le_refl _) hb).more hb.size) h.l h.n)
  have hk1 := argV_bd h.z 0 (o := 1) (lo := 1) (hi := 9999) (by omega) (by omega) (by omega) (by omega)
  obtain ⟨k1, hk⟩ : ∃ k1, k1 = argV zs 0 1 := ⟨_, rfl⟩
  rw [← hk] at hk1
  have HD := hid (show slideD t.data (argV zs 0 1) = putD t.data (over (shC t).cs (Y * W + X) (shiftL (shC t).cs (Y * W + X) (W - X) k1)) from by
    unfold slideD; rw [f1, HSD.out, show t.data.w = (W : Int) from ew, show t.data.x = (X : Int) from ex, ← hk, show ((W : Int) - (X : Int)).toNat = W - X by omega])
  have HL := hid (show (over (shC t).cs (Y * W + X) (shiftL (shC t).cs (Y * W + X) (W - X) k1)).length = (shC t).cs.length from over_len (by (first | (rw [shiftL_len]; omega) | (simp; omega))))
  have HR := hid (restOfRow_any t g B w W H X Y q h.r h.o r hq ex ey q5 q6)
  have HF := hid (fun V (hb : Below w.heap.size w V) => show Calls Tryz.prog 116 #[.slice A n c, .int .i64 1] V fun e w' => e = .returned (.int .i64 k1) ∧ V = w' from by rw [hk]; exact HFI.out V 1 hb)
  have HCL := hid (fun V c2 (hb : Below w.heap.size w V) (h1 : W - X ≤ c2) (h2 : c2 ≤ 9223372036854775807) => show Calls Tryz.prog 130 #[.slice (some ⟨q, (Y * W + X) * 6, none⟩) (W - X) c2, .int .i64 (k1)] V fun e w' => e = .returned (.tuple #[]) ∧ ∃ t', RowN w' g t' ∧ OwnS w' B t' ∧ t'.data = slideD t.data (argV zs 0 1) ∧ Below B w w' from by
    have hoc := HOC.out V hb
    refine (slide_any (Y * W + X) (W - X) c2 k1 V hoc (by omega) h1 h2 (by omega)).mono ?_
    rintro e v ⟨rfl, ho, on⟩
    exact ⟨rfl, shown_end HN.out HO.out hB hb hq HL.out ho on HD.out⟩)
  clear h fit r ew ex ey hlen hcap hq f1 f2 f3 hk HL HD HOC HFI
  go_enter Tryz.func129, Tryz.ntmps129
  go_wp2_with fail
  refine HR.out.mono ?_
  rintro e v1 ⟨c2, rfl, h1, h2, hb1⟩
  have HB1 := hid hb1
  clear hb1 HR
  go_wp2_with fail
  refine (HF.out _ HB1.out).mono ?_
  rintro e v2 ⟨rfl, rfl⟩
  go_wp2_with fail
  refine (HCL.out _ c2 HB1.out h1 h2).mono ?_
  rintro e v ⟨rfl, hK⟩
  have K := hid hK
  clear hK HCL HF
  go_wp2_with fail
  go_end0
  exact ⟨rfl, K.out⟩
theorem seq11_any (t : ScrS) (g B : Nat) (A : Option Addr) (n c : Nat) (zs : List Int) (w : World) (h : SqIn t g B A n c zs w) :
    Calls Tryz.prog 131 #[.pointer (some ⟨g, 0, none⟩), .slice A n c] w (Mth B g (slideD t.data (-argV zs 0 1)) w) := by
  have HN := hid h.r
  have HO := hid h.o
  have hB := h.B
  have hgl := h.r.lt
  obtain ⟨W, H, X, Y, T, Bt, L, fit⟩ := ok_fit h.k
  have r : Rol t W H := rol_of fit
  have ew : t.w = (W : Int) := fit.w
  have ex : t.x = (X : Int) := fit.x
  have ey : t.y = (Y : Int) := fit.y
  have q1 := fit.w1; have q2 := fit.w2; have q3 := fit.h1; have q4 := fit.h2; have q5 := fit.x2; have q6 := fit.y2; have q7 := fit.wh
  obtain ⟨f1, f2, f3⟩ := at_fit fit
  have hlen : (shC t).cs.length = W * H := r.n
  obtain ⟨q, hq⟩ := own_addr (sh_addr h.o) (by omega)
  have hcap := (sh_addr h.o).cap
  have HQ := hid hq
  have HSD := hid (sh_data t)
  have HOC := hid (fun V (hb : Below w.heap.size w V) => show OwnC V B (some ⟨q, 0, none⟩) (shC t).cs.length (shC t).c (shC t).cs from by have := sh_addr (h.o.below (Nat.le_refl _) hb); rw [hq] at this; exact this)
  have HFI := hid (fun V o (hb : Below w.heap.size w V) => first_any A n c zs o V ((h.a.below (Nat.le_refl _) hb).more hb.size) h.l h.n)
  have hk1 := argV_bd h.z 0 (o := 1) (lo := 1) (hi := 9999) (by omega) (by omega) (by omega) (by omega)
  obtain ⟨k1, hk⟩ : ∃ k1, k1 = argV zs 0 1 := ⟨_, rfl⟩
  rw [← hk] at hk1
  have HD := hid (show slideD t.data (-argV zs 0 1) = putD t.data (over (shC t).cs (Y * W + X) (shiftL (shC t).cs (Y * W + X) (W - X) (-k1))) from by
    unfold slideD; rw [f1, HSD.out, show t.data.w = (W : Int) from ew, show t.data.x = (X : Int) from ex, ← hk, show ((W : Int) - (X : Int)).toNat = W - X by omega])
  have HL := hid (show (over (shC t).cs (Y * W + X) (shiftL (shC t).cs (Y * W + X) (W - X) (-k1))).length = (shC t).cs.length from over_len (by (first | (rw [shiftL_len]; omega) | (simp; omega))))
  have HR := hid (restOfRow_any t g B w W H X Y q h.r h.o r hq ex ey q5 q6)
  have HF := hid (fun V (hb : Below w.heap.size w V) => show Calls Tryz.prog 116 #[.slice A n c, .int .i64 1] V fun e w' => e = .returned (.int .i64 k1) ∧ V = w' from by rw [hk]; exact HFI.out V 1 hb)
  have e1 : IntKind.i64.wrap (-k1) = -k1 := IntWalk.i64_in _ (by omega)
  have HCL := hid (fun V c2 (hb : Below w.heap.size w V) (h1 : W - X ≤ c2) (h2 : c2 ≤ 9223372036854775807) => show Calls Tryz.prog 130 #[.slice (some ⟨q, (Y * W + X) * 6, none⟩) (W - X) c2, .int .i64 (-k1)] V fun e w' => e = .returned (.tuple #[]) ∧ ∃ t', RowN w' g t' ∧ OwnS w' B t' ∧ t'.data = slideD t.data (-argV zs 0 1) ∧ Below B w w' from by
    have hoc := HOC.out V hb
    refine (slide_any (Y * W + X) (W - X) c2 (-k1) V hoc (by omega) h1 h2 (by omega)).mono ?_
    rintro e v ⟨rfl, ho, on⟩
    exact ⟨rfl, shown_end HN.out HO.out hB hb hq HL.out ho on HD.out⟩)
  clear h fit r ew ex ey hlen hcap hq f1 f2 f3 hk HL HD HOC HFI
  go_enter Tryz.func131, Tryz.ntmps131
  go_wp2_with fail
  refine HR.out.mono ?_
  rintro e v1 ⟨c2, rfl, h1, h2, hb1⟩
  have HB1 := hid hb1
  clear hb1 HR
  go_wp2_with fail
  refine (HF.out _ HB1.out).mono ?_
  rintro e v2 ⟨rfl, rfl⟩
  go_wp2_with fail
  refine (HCL.out _ c2 HB1.out h1 h2).mono ?_
  rintro e v ⟨rfl, hK⟩
  have K := hid hK
  clear hK HCL HF
  go_wp2_with fail
  go_end0
  exact ⟨rfl, K.out⟩
theorem seq7_any (t : ScrS) (g B : Nat) (A : Option Addr) (n c : Nat) (zs : List Int) (w : World) (h : SqIn t g B A n c zs w) :
    Calls Tryz.prog 123 #[.pointer (some ⟨g, 0, none⟩), .slice A n c] w (Mth B g (eraseD t.data 0 (t.w * t.h).toNat (argV zs 0 0)) w) := by
  have HN := hid h.r
  have HO := hid h.o
  have hB := h.B
  have hgl := h.r.lt
  obtain ⟨W, H, X, Y, T, Bt, L, fit⟩ := ok_fit h.k
  have r : Rol t W H := rol_of fit
  have ew : t.w = (W : Int) := fit.w
  have ex : t.x = (X : Int) := fit.x
  have ey : t.y = (Y : Int) := fit.y
  have q1 := fit.w1; have q2 := fit.w2; have q3 := fit.h1; have q4 := fit.h2; have q5 := fit.x2; have q6 := fit.y2; have q7 := fit.wh
  obtain ⟨f1, f2, f3⟩ := at_fit fit
  have hlen : (shC t).cs.length = W * H := r.n
  obtain ⟨q, hq⟩ := own_addr (sh_addr h.o) (by omega)
  have hcap := (sh_addr h.o).cap
  have HQ := hid hq
  have HSD := hid (sh_data t)
  have HOC := hid (fun V (hb : Below w.heap.size w V) => show OwnC V B (some ⟨q, 0, none⟩) (shC t).cs.length (shC t).c (shC t).cs from by have := sh_addr (h.o.below (Nat.le_refl _) hb); rw [hq] at this; exact this)
  have HFI := hid (fun V o (hb : Below w.heap.size w V) => first_any A n c zs o V ((h.a.below (Nat.le_refl _) hb).more hb.size) h.l h.n)
  obtain ⟨k0, hk0⟩ : ∃ k0, k0 = argV zs 0 0 := ⟨_, rfl⟩
  have HD := hid (show eraseD t.data 0 (t.w * t.h).toNat (argV zs 0 0) = putD t.data (over (shC t).cs (0 + (prL (Y * W + X) (W * H) k0).1) (List.replicate (prL (Y * W + X) (W * H) k0).2 blankC)) from by
    rw [ew, show t.h = (H : Int) from fit.h, ← Int.natCast_mul, Int.toNat_natCast, ← hk0]
    have h9 := erase_pr (d := t.data) (lo := 0) (a := Y * W + X) (m := W * H) (by rw [f1, Nat.zero_add]) f2 k0
    rw [Nat.zero_add] at h9
    rw [h9, HSD.out])
  have HL := hid (show (over (shC t).cs (0 + (prL (Y * W + X) (W * H) k0).1) (List.replicate (prL (Y * W + X) (W * H) k0).2 blankC)).length = (shC t).cs.length from over_len (by have := prL_le f2 k0; simp; omega))
  have k0_ : w.cell? ⟨g, 0, none⟩ = some (.int .i64 (W : Int)) := by rw [← ew]; exact h.r.cell 0
  have k9 : w.cell? ⟨g, 9, none⟩ = some (.int .i64 (X : Int)) := by rw [← ex]; exact h.r.cell 9
  have k10 : w.cell? ⟨g, 10, none⟩ = some (.int .i64 (Y : Int)) := by rw [← ey]; exact h.r.cell 10
  have kc : w.cell? ⟨g, offS t + 2, none⟩ = some (.slice (some ⟨q, 0, none⟩) (shC t).cs.length (shC t).c) := by
    rw [← hq]; unfold shC offS; cases t.onAlt
    · exact h.r.cell 33
    · exact h.r.cell 37
  have e1 : IntKind.i64.wrap ((Y : Int) * (W : Int)) = (Y : Int) * (W : Int) := by rw [← Int.natCast_mul]; exact IntWalk.i64_in _ (by omega)
  have e2 : IntKind.i64.wrap ((Y : Int) * (W : Int) + (X : Int)) = (Y : Int) * (W : Int) + (X : Int) := by rw [← Int.natCast_mul, ← Int.natCast_add]; exact IntWalk.i64_in _ (by omega)
  have HSH := hid (shown_any t g w.drew h.r.drew)
  have HF := hid (show Calls Tryz.prog 116 #[.slice A n c, .int .i64 0] w.drew fun e w' => e = .returned (.int .i64 k0) ∧ w.drew = w' from by rw [hk0]; exact HFI.out w.drew 0 (Below.refl w.heap.size w).drew)
  have HK := hid (fun V (hV : RowN V g t) => show (V.cell? ⟨g, 0, none⟩ = some (.int .i64 (W : Int)) ∧ V.cell? ⟨g, 9, none⟩ = some (.int .i64 (X : Int)) ∧ V.cell? ⟨g, 10, none⟩ = some (.int .i64 (Y : Int)) ∧ V.cell? ⟨g, offS t + 2, none⟩ = some (.slice (some ⟨q, 0, none⟩) (shC t).cs.length (shC t).c)) from
    ⟨by rw [← ew]; exact hV.cell 0, by rw [← ex]; exact hV.cell 9, by rw [← ey]; exact hV.cell 10, by
      rw [← hq]; unfold shC offS; cases t.onAlt
      · exact hV.cell 33
      · exact hV.cell 37⟩)
  have HEP := hid (fun V (hb : Below w.heap.size w V) => show Calls Tryz.prog 124 #[.slice (some ⟨q, 0, none⟩) (shC t).cs.length (shC t).c, .int .i64 ((Y : Int) * (W : Int) + (X : Int)), .int .i64 k0] V fun e w' => e = .returned (.tuple #[]) ∧ RowN w' g t ∧ ∃ t', RowN w' g t' ∧ OwnS w' B t' ∧ t'.data = eraseD t.data 0 (t.w * t.h).toNat (argV zs 0 0) ∧ Below B w w' from by
    rw [show (Y : Int) * (W : Int) + (X : Int) = ((Y * W + X : Nat) : Int) from by rw [Int.natCast_add, Int.natCast_mul]]
    have hoc := HOC.out V hb
    refine (erasePart_any q 0 (shC t).cs.length (shC t).c (Y * W + X) k0 V hoc (by omega) (by omega) (by omega) hcap.1 (by have := hcap.2; omega)).mono ?_
    rintro e v ⟨rfl, ho, on⟩
    rw [hlen] at ho
    have hbq : blkS (shC t) = some q := by unfold blkS; rw [hq]; rfl
    have hg1 := HN.out.below hb hgl
    have ho1 := HO.out.below (Nat.le_refl _) hb
    exact ⟨rfl, hg1.only (only_q (S := fun i => blkS (shC t) = some i) on hbq) (fun e => hg1.apart ho1 (sh_ss e)), shown_end (w1 := V) HN.out HO.out hB hb hq HL.out (by rw [hlen]; exact ho) on HD.out⟩)
  obtain ⟨os, hos⟩ : ∃ os, os = offS t := ⟨_, rfl⟩
  rw [← hos] at kc HSH HK
  obtain ⟨N, hN⟩ : ∃ N, N = (shC t).cs.length := ⟨_, rfl⟩
  obtain ⟨C, hC⟩ : ∃ C, C = (shC t).c := ⟨_, rfl⟩
  rw [← hN, ← hC] at kc HK HEP
  have HF2 := hid (fun V (hb : Below w.heap.size w V) => show Calls Tryz.prog 116 #[.slice A n c, .int .i64 0] V fun e w' => e = .returned (.int .i64 k0) ∧ V = w' from by rw [hk0]; exact HFI.out V 0 hb)
  clear h fit r ew ex ey hlen hcap hq hos f1 f2 f3 hk0 HL HD HOC HFI hN hC HF k0_ k9 k10 kc
  go_enter Tryz.func123, Tryz.ntmps123
  go_upto_region 0 with fail
  go_region_held3 (fun w' => w'.cell? ⟨g, 0, none⟩ = some (.int .i64 (W : Int)) ∧ w'.cell? ⟨g, 9, none⟩ = some (.int .i64 (X : Int)) ∧ w'.cell? ⟨g, 10, none⟩ = some (.int .i64 (Y : Int)) ∧ w'.cell? ⟨g, os + 2, none⟩ = some (.slice (some ⟨q, 0, none⟩) N C)) (first | assumption | (exact HK.out _ HN.out) | (exact HK.out _ HR9.out)) (first
    | (go_at_call 94; (with_reducible refine HSH.out.mono ?_); rintro e v ⟨rfl, rfl⟩)
    | (go_at_call 116; (with_reducible refine (HF2.out _ ?_).mono ?_); exact ⟨rfl, rfl, rfl, Nat.le_refl _, fun _ _ => rfl⟩; rintro e v ⟨rfl, rfl⟩)
    | (go_at_call 124; (with_reducible refine (HEP.out _ ?_).mono ?_); exact ⟨rfl, rfl, rfl, Nat.le_refl _, fun _ _ => rfl⟩; rintro e v ⟨rfl, hR, hK⟩; have HR9 := hid hR; have K := hid hK; clear hR hK))
  all_goals
    clear HEP HSH HF2
    go_wp2_with fail
    go_end0
    exact ⟨rfl, K.out⟩
end Go.Proofs.YtgnpgkkjcloghaaGreat.Sc
