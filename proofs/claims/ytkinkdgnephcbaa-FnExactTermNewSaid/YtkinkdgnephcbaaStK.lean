/- The laws' helpers over terminals: the marks, and whether they are held. -/
import Derived.Test.YtkinkdgnephcbaaStV
import Derived.Test.YtkinkdgnephcbaaScMkL
import Derived.Test.YtkinkdgnephcbaaIntM
import Derived.Test.YtkinkdgnephcbaaBytesM
import Derived.Deep.RegionWith
import Derived.Deep.DrawnRows
namespace Go.Proofs.Ytkinkdgnephcbaa.St
open Go.RowKit Go.Proofs.Ytkinkdgnephcbaa.Bytes Go.Proofs.Ytkinkdgnephcbaa.Rows_ Go.Proofs.Ytkinkdgnephcbaa.RowK Go.Proofs.Ytkinkdgnephcbaa.Gr Go.Proofs.Ytkinkdgnephcbaa.DOk Go.Proofs.Ytkinkdgnephcbaa.Opq Go.Proofs.Ytkinkdgnephcbaa.Sc
set_option linter.unusedVariables false
attribute [local go_sem ↓] Go.wp_at_zero Go.wp_at_succ lm_lawsVp lm_implVp lm_lawsScr lm_implScr lm_lawsTerm lm_implTerm lm_lawsPane lm_implPane lm_lawsWin lm_implWin lm_lawsSess lm_implSess lr_implVp lr_implTerm lr_implPane lr_implWin lr_implSess lr_lawsState lr_implState sm_Vp sm_Scr sm_Term sm_Pane sm_Win sm_Sess sr_Vp sr_Term sr_Pane sr_Win sr_Sess sr_State
attribute [local go_sem] RowZ.set rowOf_set rowOf_setRow_other rowOf_setRow_same rowOf_setCell_other blkOf_ptr isHead_ptr aggN_agg isPtr_ptr offOf_ptr setRow_alloc rowZ_at rowZ_past rowZ_setRow_other rowOf_alloc_at rowOf_alloc_past rowOf_drew seg_alloc_past seg_alloc_at seg_setCell_other seg_setRow_other seg_drew cut_term_scr cut_term_vp cut_pane_term vpA_size termA_size paneA_size winA_size sessA_size stA_size scrA_size one_vp one_scr one_term one_pane one_win one_sess one_st vp_at0 vp_at1 vp_at2 vp_at3 term_at0 term_at1 term_at2 term_at3 pane_at0 pane_at1 pane_at2 pane_at3 pane_at4 pane_at5 win_at0 win_at1 win_at2 win_at3 win_at4 sess_at0 sess_at1 sess_at2 st_at0 st_at1 st_at2 st_at3 st_at4 st_at5 st_at6
def mkV (k : Int) (v : VpS) : VpS := { v with zs := marksN v.zs.length k, bs := marks v.bs.length (k + v.zs.length) }
def endV (k : Int) (v : VpS) : Int := k + v.zs.length + v.bs.length
def VV (v : VpS) (i : Nat) : Prop := (Value.slice v.aA v.zs.length v.ac).ownBlock = some i ∨ (Value.slice v.pA v.bs.length v.pc).ownBlock = some i
def mkT (k : Int) (t : TermS) : TermS := ⟨mkV k t.v, mkS (endV k t.v) t.s⟩
def endT (k : Int) (t : TermS) : Int := endS (endV k t.v) t.s
theorem zs_len (k : Int) (v : VpS) : (mkV k v).zs.length = v.zs.length := by simp [mkV, marksN]
theorem bs_len (k : Int) (v : VpS) : (mkV k v).bs.length = v.bs.length := by simp [mkV, marks]
theorem OwnV.ne {w : World} {base : Nat} {v : VpS} (h : OwnV w base v) : ∀ g, (Value.slice v.aA v.zs.length v.ac).ownBlock = some g → (Value.slice v.pA v.bs.length v.pc).ownBlock ≠ some g := own_ne h.a h.p (by decide)
theorem endT_ge {k : Int} {t : TermS} (h : 0 ≤ k) : 0 ≤ endT k t := endS_ge (by unfold endV; omega)
/-- the bytes of a terminal lie apart from its screen -/
theorem OwnT.apb {w : World} {base : Nat} {t : TermS} (h : OwnT w base t) : ∀ i, SS t.s i → (Value.slice t.v.pA t.v.bs.length t.v.pc).ownBlock ≠ some i := by
  rintro i (⟨r, hr, hi⟩ | hi | hi)
  · exact fun e => own_ne h.v.p (h.s.c.1 r hr) (by decide) i e hi
  · exact fun e => own_ne h.v.p h.s.t (by decide) i e hi
  · exact fun e => OwnR.ne h.v.p h.s.r (by decide) i e hi
theorem OwnT.apV {w : World} {base : Nat} {t : TermS} (h : OwnT w base t) : ∀ i, SS t.s i → ¬ VV t.v i := fun i hi hv => hv.elim (h.ap i hi) (h.apb i hi)
theorem OwnT.only {w w' : World} {base : Nat} {t : TermS} {S : Nat → Prop} (h : OwnT w base t) (on : Only S w w') (hd : ∀ i, TT t i → ¬ S i) : OwnT w' base t :=
  ⟨⟨Only.own h.v.a on (fun g hg => hd g (.inr (.inl hg))), Only.own h.v.p on (fun g hg => hd g (.inr (.inr hg)))⟩, h.s.only on (fun i hi => hd i (.inl hi)), h.ap⟩
set_option maxRecDepth 100000 in
set_option maxHeartbeats 1600000 in
theorem markVp_any (v : VpS) (base : Nat) (k : Int) (w : World) (ho : OwnV w base v) (hn : szV v ≤ 1048576) (h0 : 0 ≤ k) (h1 : k ≤ 1099511627) :
    Calls Try.prog 90 #[.agg (vpA v), .int .i64 k] w fun e w' => e = .returned (.int .i64 (endV k v)) ∧ OwnV w' base (mkV k v) ∧ Only (VV v) w w' := by
  unfold szV at hn
  have n1 : v.zs.length ≤ 1048576 := by omega
  have n2 : v.bs.length ≤ 1048576 := by omega
  have hb0 := (Below.refl w.heap.size w).alloc (Nat.le_refl _) (.cells (vpA v) 48)
  have H0 := Lib.hid (ho.below (Nat.le_refl _) hb0)
  have HL := Lib.hid (show ∀ i, VV v i → i < w.heap.size from fun i hi => hi.elim (fun h => (ho.a.blk i h).2) (fun h => (ho.p.blk i h).2))
  have HNE := Lib.hid ho.ne
  have HB0 := Lib.hid hb0
  have HEV := Lib.hid (show endV k v = k + v.zs.length + v.bs.length from rfl)
  clear ho hn hb0
  go_enter Try.func90, Try.ntmps90
  go_wp2_with fail
  refine (markIntS_own v.aA v.zs.length v.ac base v.zs k _ H0.out.a (by omega) h0 (by omega)).mono ?_
  rintro e v1 ⟨rfl, ho1, hg1⟩
  have on1 := Only.grown (S := fun i => (Value.slice v.aA v.zs.length v.ac).ownBlock = some i) hg1 (fun i e => e)
  have X1 := Lib.hid (RowB.only (RowB.new w (vpA v) 48) on1 (fun h => by have := HL.out _ (.inl h); omega))
  have O1 := Lib.hid ho1
  have P1 := Lib.hid (Only.own H0.out.p on1 (fun g hg hg' => HNE.out g hg' hg))
  have ON1 := Lib.hid on1
  have z1 : w.heap.size < v1.heap.size := X1.out.lt
  clear ho1 hg1 on1
  have ca : v1.cell? ⟨w.heap.size, 3, none⟩ = some (.slice v.pA v.bs.length v.pc) := X1.out.cell 3
  go_wp2_with fail
  refine (markByteS_any v.pA v.bs.length v.pc base v.bs (k + v.zs.length) _ P1.out (by omega) (by omega) (by omega)).mono ?_
  rintro e v2 ⟨rfl, ho2, hg2⟩
  have on2 := Only.grown (S := fun i => (Value.slice v.pA v.bs.length v.pc).ownBlock = some i) hg2 (fun i e => e)
  have O2 := Lib.hid (Only.own O1.out on2 (fun g hg hg' => HNE.out g hg hg'))
  have P2 := Lib.hid ho2
  have ON2 := Lib.hid (show Only (VV v) w v2 from ((Only.below HB0.out (Nat.le_refl _)).trans (ON1.out.mono (fun i h => .inl h))).trans (on2.mono (fun i h => .inr h)))
  clear ho2 hg2 on2 ca
  go_wp2_with fail
  go_ret
  refine ⟨by rw [HEV.out]; rfl, ⟨?_, ?_⟩, ON2.out⟩
  · have h := O2.out; show OwnI v2 base v.aA (mkV k v).zs.length v.ac _; rw [zs_len]; exact h
  · have h := P2.out; show Own v2 base v.pA (mkV k v).bs.length v.pc _; rw [bs_len]; exact h
set_option maxRecDepth 100000 in
set_option maxHeartbeats 1600000 in
theorem heldVp_any (v : VpS) (k : Int) (w : World) (hr : RdV w w.heap.size (mkV k v)) (hn : szV v ≤ 1048576) (h0 : 0 ≤ k) (h1 : k ≤ 1099511627) :
    Calls Try.prog 92 #[.agg (vpA v), .int .i64 k] w fun e w' => e = .returned (.int .i64 (endV k v)) ∧ Below w.heap.size w w' := by
  unfold szV at hn
  have n1 : v.zs.length ≤ 1048576 := by omega
  have n2 : v.bs.length ≤ 1048576 := by omega
  have HB0 := Lib.hid ((Below.refl w.heap.size w).alloc (Nat.le_refl _) (.cells (vpA v) 48))
  have HR := Lib.hid ((hr.below (Nat.le_refl _) HB0.out).more HB0.out.size)
  have HEV := Lib.hid (show endV k v = k + v.zs.length + v.bs.length from rfl)
  have k1 : 0 ≤ k + (v.zs.length : Int) := by omega
  have k2 : 0 ≤ k + (v.zs.length : Int) + (v.bs.length : Int) := by omega
  clear hr hn
  go_enter Try.func92, Try.ntmps92
  go_wp2_with fail
  refine (heldIntS_any v.aA v.zs.length v.ac k _ HR.out.a (by omega) h0 (by omega)).mono ?_
  rintro e v1 ⟨rfl, rfl⟩
  go_wp2_with fail
  refine (heldByteS_any v.pA v.bs.length v.pc (k + v.zs.length) _ HR.out.p (by omega) (by omega) (by omega)).mono ?_
  rintro e v2 ⟨rfl, rfl⟩
  have HB2 := HB0
  go_wp2_with fail
  go_ret
  exact ⟨by rw [HEV.out]; rfl, HB2.out⟩
set_option maxRecDepth 100000 in
set_option maxHeartbeats 1600000 in
theorem markTerm_any (t : TermS) (base : Nat) (k : Int) (w : World) (ho : OwnT w base t) (hn : szT t ≤ 1048576) (h0 : 0 ≤ k) (h1 : k ≤ 1000000000) :
    Calls Try.prog 36 #[.agg (termA t), .int .i64 k] w fun e w' => e = .returned (.int .i64 (endT k t)) ∧ OwnT w' base (mkT k t) ∧ Only (TT t) w w' := by
  unfold szT at hn
  have n1 : szV t.v ≤ 1048576 := by omega
  have n2 : szS t.s ≤ 1048576 := by omega
  have hev : 0 ≤ endV k t.v ∧ endV k t.v ≤ 1099511627 := by unfold endV; unfold szV at n1; omega
  obtain ⟨he0, he1⟩ := hev
  have hb0 := (Below.refl w.heap.size w).alloc (Nat.le_refl _) (.cells (termA t) 58)
  have H0 := Lib.hid (ho.below (Nat.le_refl _) hb0)
  have HL := Lib.hid (show ∀ i, TT t i → i < w.heap.size from fun i hi => (ho.blk i hi).2)
  have HAP := Lib.hid ho.apV
  have HAI := Lib.hid ho.ap
  have HB0 := Lib.hid hb0
  clear ho hn hb0
  go_enter Try.func36, Try.ntmps36
  go_wp2_with fail
  refine (markVp_any t.v base k _ H0.out.v n1 h0 (by omega)).mono ?_
  rintro e v1 ⟨rfl, ho1, on1⟩
  have X1 := Lib.hid (RowB.only (RowB.new w (termA t) 58) on1 (fun h => by have := HL.out _ (h.elim (fun h => .inr (.inl h)) (fun h => .inr (.inr h))); omega))
  have V1 := Lib.hid ho1
  have S1 := Lib.hid (H0.out.s.only on1 (fun i hi => HAP.out i hi))
  have ON1 := Lib.hid on1
  have z1 : w.heap.size < v1.heap.size := X1.out.lt
  have sg : seg v1 w.heap.size 4 31 = scrA t.s := by rw [seg_row X1.out]; rfl
  clear ho1 on1
  go_wp2_with fail
  refine (markScr_any t.s base (endV k t.v) _ S1.out n2 he0 he1).mono ?_
  rintro e v2 ⟨rfl, ho2, on2⟩
  have V2 := Lib.hid (show OwnV v2 base (mkV k t.v) from ⟨Only.own V1.out.a on2 (fun g hg hs => HAP.out g hs (.inl (by rw [zs_len] at hg; exact hg))), Only.own V1.out.p on2 (fun g hg hs => HAP.out g hs (.inr (by rw [bs_len] at hg; exact hg)))⟩)
  have S2 := Lib.hid ho2
  have ON2 := Lib.hid (show Only (TT t) w v2 from ((Only.below HB0.out (Nat.le_refl _)).trans (ON1.out.mono (fun i h => h.elim (fun h => .inr (.inl h)) (fun h => .inr (.inr h))))).trans (on2.mono (fun i h => .inl h)))
  clear ho2 on2 sg
  go_wp2_with fail
  go_ret
  exact ⟨rfl, ⟨V2.out, S2.out, fun i hi => by show (Value.slice t.v.aA (mkV k t.v).zs.length t.v.ac).ownBlock ≠ some i; rw [zs_len]; exact HAI.out i ((ss_mk _ _ i).1 hi)⟩, ON2.out⟩
set_option maxRecDepth 100000 in
set_option maxHeartbeats 1600000 in
theorem heldTerm_any (t : TermS) (k : Int) (w : World) (hr : RdT w w.heap.size (mkT k t)) (hn : szT t ≤ 1048576) (h0 : 0 ≤ k) (h1 : k ≤ 1000000000) :
    Calls Try.prog 37 #[.agg (termA t), .int .i64 k] w fun e w' => e = .returned (.int .i64 (endT k t)) ∧ Below w.heap.size w w' := by
  unfold szT at hn
  have n1 : szV t.v ≤ 1048576 := by omega
  have n2 : szS t.s ≤ 1048576 := by omega
  have hev : 0 ≤ endV k t.v ∧ endV k t.v ≤ 1099511627 := by unfold endV; unfold szV at n1; omega
  obtain ⟨he0, he1⟩ := hev
  have he2 : 0 ≤ endT k t := endT_ge h0
  have HB0 := Lib.hid ((Below.refl w.heap.size w).alloc (Nat.le_refl _) (.cells (termA t) 58))
  have HR := Lib.hid (fun W (h : Below w.heap.size w W) => (hr.below (Nat.le_refl _) h).more h.size)
  have HET := Lib.hid (show endT k t = endS (endV k t.v) t.s from rfl)
  clear hr hn
  go_enter Try.func37, Try.ntmps37
  go_wp2_with fail
  refine (heldVp_any t.v k _ (HR.out _ HB0.out).v n1 h0 (by omega)).mono ?_
  rintro e v1 ⟨rfl, hb1⟩
  have X1 := Lib.hid (RowB.below (RowB.new w (termA t) 58) hb1 (by simp))
  have z1 : w.heap.size < v1.heap.size := X1.out.lt
  have HB1 := Lib.hid (HB0.out.trans (hb1.mono HB0.out.size))
  have sg : seg v1 w.heap.size 4 31 = scrA t.s := by rw [seg_row X1.out]; rfl
  clear hb1
  go_wp2_with fail
  refine (heldScr_any t.s (endV k t.v) _ (HR.out _ HB1.out).s n2 he0 he1).mono ?_
  rintro e v2 ⟨rfl, hb2⟩
  have HB2 := Lib.hid (HB1.out.trans (hb2.mono HB1.out.size))
  clear hb2 sg
  rw [← HET.out]
  go_wp2_with fail
  go_ret
  exact ⟨rfl, HB2.out⟩
theorem eqT {t t' : TermS} {w : World} {b1 b2 : Nat} (h1 : OwnT w b1 t) (h2 : OwnT w b2 t') (he : t'.data = t.data) (hn : szT t ≤ 1048576) :
    Calls Try.prog 35 #[.agg (termA t), .agg (termA t')] w fun e w' => e = .returned (.bool true) ∧ Below w.heap.size w w' := eqTerm_yes t t' w h1.rd h2.rd he hn
end Go.Proofs.Ytkinkdgnephcbaa.St
