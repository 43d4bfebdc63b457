/- The map of the control sequences, in the program. -/
import Derived.Test.YtgnpgkkjcloghaaGreatCsA
import Derived.Shelf.Abstract
import Derived.Laws.EntriesVeiled
set_option maxRecDepth 100000
set_option maxHeartbeats 3200000
set_option linter.unusedVariables false
namespace Go.Proofs.YtgnpgkkjcloghaaGreat.Sc
open Lib
open Go.RowKit Bytes Rows_ RowK Gr DOk Opq Attr
open Go.Maps
attribute [local go_sem ↓] Sc.exec_storeS Sc.exec_loadS
attribute [local go_sem] blkOf_ptr isHead_ptr aggN_agg setRow_alloc rowZ_at rowZ_past scrA_size nsA_size one_scr rowOf_alloc_at rowOf_alloc_past rowOf_drew ns_pre
attribute [local go_sem] sa_w sa_h sa_mw sa_mh sa_M sa_aw sa_ah sa_A sa_onAlt sa_x sa_y sa_wrap sa_fg sa_bg sa_b sa_u sa_t sa_top sa_bot sa_noWrap sa_hide sa_sx sa_sy sa_sfg sa_sbg sa_sb sa_su sa_st sa_tabs sa_lim sa_rows
attribute [local go_sem] ns_w ns_h ns_mw ns_mh ns_M ns_aw ns_ah ns_A ns_onAlt ns_x ns_y ns_wrap ns_fg ns_bg ns_b ns_u ns_t ns_top ns_bot ns_noWrap ns_hide ns_sx ns_sy ns_sfg ns_sbg ns_sb ns_su ns_st ns_tabs ns_lim ns_rows
attribute [local go_sem] ns_at0 ns_at1 ns_at2 ns_at3 ns_at4 ns_at5 ns_at6 ns_at7 ns_at8 ns_at9 ns_at10 ns_at11 ns_at12 ns_at13 ns_at14 ns_at15 ns_at16 ns_at17 ns_at18 ns_at19 ns_at20 ns_at21 ns_at22 ns_at23 ns_at24 ns_at25 ns_at26 ns_at27 ns_at28 ns_at29 ns_at30 ns_at31 ns_at32 ns_at33 ns_at34 ns_at35 ns_at36 ns_at37
attribute [local go_sem] scr_at0 scr_at1 scr_at2 scr_at3 scr_at4 scr_at5 scr_at6 scr_at7 scr_at8 scr_at9 scr_at10 scr_at11 scr_at12 scr_at13 scr_at14 scr_at15 scr_at16 scr_at17 scr_at18 scr_at19 scr_at20 scr_at21 scr_at22 scr_at23 scr_at24 scr_at25 scr_at26 scr_at27 scr_at28 scr_at29 scr_at30
theorem ikeyS : Keyed Tryz.prog 3 := int_keyed Tryz.underlying3
def seqR (v : Value) : Option (DataW Value × List MemPlace) := some (.held v, [])
def datQ : List (Int × Value) → DataW Value
  | [] => .map []
  | (k, v) :: r => (datQ r).put (.int .i64 k) (.held v)
def pickQ (b : Int) (z : Value) : List (Int × Value) → Value
  | [] => z
  | (k, v) :: r => if b = k then v else pickQ b z r
def hasQ (b : Int) : List (Int × Value) → Bool
  | [] => false
  | (k, v) :: r => if b = k then true else hasQ b r
theorem datQ_map : ∀ l, IsMap (datQ l)
  | [] => isMap_empty
  | (k, v) :: r => (datQ_map r).put _ _
theorem kS_ne {a b : Int} (h : ¬ b = a) : (Lit.int .i64 b) ≠ .int .i64 a := fun e => h (by injection e)
theorem datQ_at (b : Int) (z : Value) : ∀ l, (datQ l).atKey (.int .i64 b) (.held z) = .held (pickQ b z l)
  | [] => rfl
  | (k, v) :: r => by
    rw [pickQ]
    show ((datQ r).put (.int .i64 k) (.held v)).atKey (.int .i64 b) (.held z) = _
    by_cases h : b = k
    · subst h; rw [if_pos rfl, atKey_put_same (datQ_map r) (show WideAt.IsKeyLit (Lit.int .i64 b) from trivial)]
    · rw [if_neg h, atKey_put_other (kS_ne h)]; exact datQ_at b z r
theorem datQ_has (b : Int) : ∀ l, has (datQ l) (.int .i64 b) = hasQ b l
  | [] => rfl
  | (k, v) :: r => by
    rw [hasQ]
    show has ((datQ r).put (.int .i64 k) (.held v)) (.int .i64 b) = _
    by_cases h : b = k
    · subst h; rw [if_pos rfl, has_put_same (datQ_map r) (show WideAt.IsKeyLit (Lit.int .i64 b) from trivial)]
    · rw [if_neg h, has_put_other (kS_ne h)]; exact datQ_has b r
def seqL : List (Int × Value) := [(108, .agg #[.bool true, .func (.func 143) #[] #[]]), (104, .agg #[.bool true, .func (.func 141) #[] #[]]), (103, .agg #[.bool false, .func (.func 140) #[] #[]]), (114, .agg #[.bool false, .func (.func 139) #[] #[]]), (109, .agg #[.bool false, .func (.func 137) #[] #[]]), (84, .agg #[.bool false, .func (.func 136) #[] #[]]), (83, .agg #[.bool false, .func (.func 135) #[] #[]]), (77, .agg #[.bool false, .func (.func 134) #[] #[]]), (76, .agg #[.bool false, .func (.func 132) #[] #[]]), (80, .agg #[.bool false, .func (.func 131) #[] #[]]), (64, .agg #[.bool false, .func (.func 129) #[] #[]]), (88, .agg #[.bool false, .func (.func 126) #[] #[]]), (75, .agg #[.bool false, .func (.func 125) #[] #[]]), (74, .agg #[.bool false, .func (.func 123) #[] #[]]), (102, .agg #[.bool false, .func (.func 122) #[] #[]]), (72, .agg #[.bool false, .func (.func 122) #[] #[]]), (100, .agg #[.bool false, .func (.func 121) #[] #[]]), (71, .agg #[.bool false, .func (.func 120) #[] #[]]), (68, .agg #[.bool false, .func (.func 119) #[] #[]]), (67, .agg #[.bool false, .func (.func 118) #[] #[]]), (66, .agg #[.bool false, .func (.func 117) #[] #[]]), (65, .agg #[.bool false, .func (.func 115) #[] #[]])]
theorem below_gr {w w' : World} {B : Nat} (g : w.grownBy w' (some B)) (hB : B ≤ w.heap.size) : Below B w w' :=
  ⟨g.os, g.tape, g.output, g.size, fun i hi => g.block i (by omega) (by intro e; injection e with e; omega)⟩
theorem seq_step {w w1 : World} {mb n : Nat} {D : DataW Value} (hb : Below mb w w1) (hs : mb ≤ w.heap.size) (h : w1.ownsMap Tryz.prog 3 seqR mb n D) (hn : n < maxLen) (k : Int) (hk : (Lit.int .i64 k).wf = true) (v : Value) :
    ∃ w2, (Instr.mapUpdate 134 (.map (some mb)) (.int .i64 k) v).run Tryz.prog w1 = .ok () w2 ∧ w2.ownsMap Tryz.prog 3 seqR mb (n + 1) (D.put (.int .i64 k) (.held v)) ∧ Below mb w w2 := by
  obtain ⟨w2, r, o, g⟩ := World.ownsMap.update h ikeyS Tryz.underlying134 hn (keyOf_int_mk Tryz.underlying3 hk) (show seqR v = some (.held v, []) from rfl)
  exact ⟨w2, r, o, hb.trans (below_gr g (Nat.le_trans hs hb.size))⟩
theorem sequences_any (w : World) :
    Calls Tryz.prog 103 #[] w fun e w' => e = .returned (.map (some w.heap.size)) ∧ w'.ownsMap Tryz.prog 3 seqR w.heap.size 22 (datQ seqL) ∧ Below w.heap.size w w' := by
  have o0 := World.ownsMap_made w Tryz.prog 3 seqR
  have b0 := (Below.refl w.heap.size w).alloc (Nat.le_refl _) (.map #[] 0)
  have hmm := @run_makeMap Tryz.prog
  obtain ⟨w1, r1, o1, b1⟩ := seq_step b0 (Nat.le_refl _) o0 (by decide) 65 (by decide) (.agg #[.bool false, .func (.func 115) #[] #[]])
  clear o0 b0
  obtain ⟨w2, r2, o2, b2⟩ := seq_step b1 (Nat.le_refl _) o1 (by decide) 66 (by decide) (.agg #[.bool false, .func (.func 117) #[] #[]])
  clear o1 b1
  obtain ⟨w3, r3, o3, b3⟩ := seq_step b2 (Nat.le_refl _) o2 (by decide) 67 (by decide) (.agg #[.bool false, .func (.func 118) #[] #[]])
  clear o2 b2
  obtain ⟨w4, r4, o4, b4⟩ := seq_step b3 (Nat.le_refl _) o3 (by decide) 68 (by decide) (.agg #[.bool false, .func (.func 119) #[] #[]])
  clear o3 b3
  obtain ⟨w5, r5, o5, b5⟩ := seq_step b4 (Nat.le_refl _) o4 (by decide) 71 (by decide) (.agg #[.bool false, .func (.func 120) #[] #[]])
  clear o4 b4
  obtain ⟨w6, r6, o6, b6⟩ := seq_step b5 (Nat.le_refl _) o5 (by decide) 100 (by decide) (.agg #[.bool false, .func (.func 121) #[] #[]])
  clear o5 b5
  obtain ⟨w7, r7, o7, b7⟩ := seq_step b6 (Nat.le_refl _) o6 (by decide) 72 (by decide) (.agg #[.bool false, .func (.func 122) #[] #[]])
  clear o6 b6
  obtain ⟨w8, r8, o8, b8⟩ := seq_step b7 (Nat.le_refl _) o7 (by decide) 102 (by decide) (.agg #[.bool false, .func (.func 122) #[] #[]])
  clear o7 b7
  obtain ⟨w9, r9, o9, b9⟩ := seq_step b8 (Nat.le_refl _) o8 (by decide) 74 (by decide) (.agg #[.bool false, .func (.func 123) #[] #[]])
  clear o8 b8
  obtain ⟨w10, r10, o10, b10⟩ := seq_step b9 (Nat.le_refl _) o9 (by decide) 75 (by decide) (.agg #[.bool false, .func (.func 125) #[] #[]])
  clear o9 b9
  obtain ⟨w11, r11, o11, b11⟩ := seq_step b10 (Nat.le_refl _) o10 (by decide) 88 (by decide) (.agg #[.bool false, .func (.func 126) #[] #[]])
  clear o10 b10
  obtain ⟨w12, r12, o12, b12⟩ := seq_step b11 (Nat.le_refl _) o11 (by decide) 64 (by decide) (.agg #[.bool false, .func (.func 129) #[] #[]])
  clear o11 b11
  obtain ⟨w13, r13, o13, b13⟩ := seq_step b12 (Nat.le_refl _) o12 (by decide) 80 (by decide) (.agg #[.bool false, .func (.func 131) #[] #[]])
  clear o12 b12
  obtain ⟨w14, r14, o14, b14⟩ := seq_step b13 (Nat.le_refl _) o13 (by decide) 76 (by decide) (.agg #[.bool false, .func (.func 132) #[] #[]])
  clear o13 b13
  obtain ⟨w15, r15, o15, b15⟩ := seq_step b14 (Nat.le_refl _) o14 (by decide) 77 (by decide) (.agg #[.bool false, .func (.func 134) #[] #[]])
  clear o14 b14
  obtain ⟨w16, r16, o16, b16⟩ := seq_step b15 (Nat.le_refl _) o15 (by decide) 83 (by decide) (.agg #[.bool false, .func (.func 135) #[] #[]])
  clear o15 b15
  obtain ⟨w17, r17, o17, b17⟩ := seq_step b16 (Nat.le_refl _) o16 (by decide) 84 (by decide) (.agg #[.bool false, .func (.func 136) #[] #[]])
  clear o16 b16
  obtain ⟨w18, r18, o18, b18⟩ := seq_step b17 (Nat.le_refl _) o17 (by decide) 109 (by decide) (.agg #[.bool false, .func (.func 137) #[] #[]])
  clear o17 b17
  obtain ⟨w19, r19, o19, b19⟩ := seq_step b18 (Nat.le_refl _) o18 (by decide) 114 (by decide) (.agg #[.bool false, .func (.func 139) #[] #[]])
  clear o18 b18
  obtain ⟨w20, r20, o20, b20⟩ := seq_step b19 (Nat.le_refl _) o19 (by decide) 103 (by decide) (.agg #[.bool false, .func (.func 140) #[] #[]])
  clear o19 b19
  obtain ⟨w21, r21, o21, b21⟩ := seq_step b20 (Nat.le_refl _) o20 (by decide) 104 (by decide) (.agg #[.bool true, .func (.func 141) #[] #[]])
  clear o20 b20
  obtain ⟨w22, r22, o22, b22⟩ := seq_step b21 (Nat.le_refl _) o21 (by decide) 108 (by decide) (.agg #[.bool true, .func (.func 143) #[] #[]])
  clear o21 b21
  have HO := hid (show w22.ownsMap Tryz.prog 3 seqR w.heap.size 22 (datQ seqL) from o22)
  have HB := hid b22
  clear o22 b22
  go_enter Tryz.func103, Tryz.ntmps103
  go_wp2_with fail
  go_ret
  exact ⟨rfl, HO.out, HB.out⟩
theorem zeroQ (w : World) : (zeroValue 132).run Tryz.prog w = .ok (.agg #[.bool false, .nilFunc]) w := by kernel_rfl
theorem seq_look {v : World} {mb : Nat} (h : v.ownsMap Tryz.prog 3 seqR mb 22 (datQ seqL)) (b : Int) (hb : (Lit.int .i64 b).wf = true) {val : Value} {y : Bool} (hp : pickQ b (.agg #[.bool false, .nilFunc]) seqL = val) (hh : hasQ b seqL = y) :
    (Instr.lookup 134 (.map (some mb)) (.int .i64 b) true).run Tryz.prog v = .ok (.tuple #[val, .bool y]) v := by
  obtain ⟨x, ps, hrun, hR⟩ := World.ownsMap.look_ok h ikeyS Tryz.underlying134 (zeroQ v) (show seqR (.agg #[.bool false, .nilFunc]) = some (.held (.agg #[.bool false, .nilFunc]), []) from rfl) (keyOf_int_mk Tryz.underlying3 hb)
  rw [datQ_at, hp] at hR
  rw [datQ_has, hh] at hrun
  have e : x = val := by
    have h1 : (some (DataW.held x, ([] : List MemPlace))) = some (DataW.held val, ps) := hR
    injection h1 with h1; injection h1 with h1; injection h1
  rw [e] at hrun; exact hrun
theorem cs_hit (g : Nat) (A : Option Addr) (n c : Nat) (mark : Bool) (b : Int) (w : World) (f : Nat) (K : World → Prop) (hb : (Lit.int .i64 b).wf = true) (eg : ∀ args w, (callFunc f args).run Tryz.prog w = .ok (.enter f args) w) (hv : pickQ b (.agg #[.bool false, .nilFunc]) seqL = .agg #[.bool mark, .func (.func f) #[] #[]]) (hh : hasQ b seqL = true) (HC0 : ∀ V, Below w.heap.size w V → Calls Tryz.prog f #[.pointer (some ⟨g, 0, none⟩), .slice A n c] V fun e v => e = .returned (.tuple #[]) ∧ K v) :
    Calls Tryz.prog 79 #[.pointer (some ⟨g, 0, none⟩), .bool mark, .slice A n c, .int .i64 b] w fun e v => e = .returned (.tuple #[]) ∧ K v := by
  have HSQ := hid (sequences_any w)
  have HLK := hid (fun (v : World) (h : v.ownsMap Tryz.prog 3 seqR w.heap.size 22 (datQ seqL)) => seq_look h b hb hv (hh.trans (rfl : true = true)))
  clear hb hv hh
  go_enter Tryz.func79, Tryz.ntmps79
  go_wp2_with fail
  refine HSQ.out.mono ?_
  rintro e v ⟨rfl, ho, hbv⟩
  have hrun := HLK.out v ho
  have HBV := hid hbv
  have hsz := hbv.size
  clear ho hbv HLK HSQ
  have HC := hid HC0
  clear HC0
  go_wp2_with (go_at_fn f; refine Calls.mono (HC.out _ (by (repeat (first | refine Below.setCell ?_ (by simp <;> omega) _)); exact HBV.out.trans (((Below.refl v.heap.size v).alloc (Nat.le_refl _) _).mono hsz))) ?_; rintro e v2 ⟨rfl, hK⟩; have K9 := hid hK; clear hK)
  go_end0
  exact ⟨rfl, K9.out⟩
theorem cs_mark (g : Nat) (A : Option Addr) (n c : Nat) (mark : Bool) (b : Int) (w : World) (m0 : Bool) (f : Nat) (hb : (Lit.int .i64 b).wf = true) (hv : pickQ b (.agg #[.bool false, .nilFunc]) seqL = .agg #[.bool m0, .func (.func f) #[] #[]]) (hh : hasQ b seqL = true) (hm : (m0 == mark) = false) :
    Calls Tryz.prog 79 #[.pointer (some ⟨g, 0, none⟩), .bool mark, .slice A n c, .int .i64 b] w fun e v => e = .returned (.tuple #[]) ∧ Below w.heap.size w v := by
  have HSQ := hid (sequences_any w)
  have HLK := hid (fun (v : World) (h : v.ownsMap Tryz.prog 3 seqR w.heap.size 22 (datQ seqL)) => seq_look h b hb hv (hh.trans (rfl : true = true)))
  clear hb hv hh
  go_enter Tryz.func79, Tryz.ntmps79
  go_wp2_with fail
  refine HSQ.out.mono ?_
  rintro e v ⟨rfl, ho, hbv⟩
  have hrun := HLK.out v ho
  have HBV := hid hbv
  have hsz := hbv.size
  clear ho hbv HLK HSQ
  go_wp2_with fail
  go_end0
  exact ⟨rfl, by (repeat (first | refine Below.setCell ?_ (by simp <;> omega) _)); exact HBV.out.trans (((Below.refl v.heap.size v).alloc (Nat.le_refl _) _).mono hsz)⟩
theorem cs_none (g : Nat) (A : Option Addr) (n c : Nat) (mark : Bool) (b : Int) (w : World) (hb : (Lit.int .i64 b).wf = true) (hv : pickQ b (.agg #[.bool false, .nilFunc]) seqL = .agg #[.bool false, .nilFunc]) (hh : hasQ b seqL = false) :
    Calls Tryz.prog 79 #[.pointer (some ⟨g, 0, none⟩), .bool mark, .slice A n c, .int .i64 b] w fun e v => e = .returned (.tuple #[]) ∧ Below w.heap.size w v := by
  have HSQ := hid (sequences_any w)
  have HLK := hid (fun (v : World) (h : v.ownsMap Tryz.prog 3 seqR w.heap.size 22 (datQ seqL)) => seq_look h b hb hv (hh.trans (rfl : false = false)))
  clear hb hv hh
  go_enter Tryz.func79, Tryz.ntmps79
  go_wp2_with fail
  refine HSQ.out.mono ?_
  rintro e v ⟨rfl, ho, hbv⟩
  have hrun := HLK.out v ho
  have HBV := hid hbv
  have hsz := hbv.size
  clear ho hbv HLK HSQ
  go_wp2_with fail
  go_end0
  exact ⟨rfl, by (repeat (first | refine Below.setCell ?_ (by simp <;> omega) _)); exact HBV.out.trans (((Below.refl v.heap.size v).alloc (Nat.le_refl _) _).mono hsz)⟩
end Go.Proofs.YtgnpgkkjcloghaaGreat.Sc
