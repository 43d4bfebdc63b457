/- A run of cells appended as bytes, in the program. -/
import Derived.Test.YteiojpglhmikoaaCbImpl
import Derived.Test.YteiojpglhmikoaaAppVs
import Derived.Test.YteiojpglhmikoaaKiA
import Derived.Deep.Cut
import Derived.Deep.CutRange
import Derived.Deep.DeepCutAuto
namespace Go.Proofs.Yteiojpglhmikoaa.Cb
open Go.RowKit Go.Proofs.Yteiojpglhmikoaa.Bytes Go.Proofs.Yteiojpglhmikoaa.Rows_ Go.Proofs.Yteiojpglhmikoaa.RowK Go.Proofs.Yteiojpglhmikoaa.Var Go.Proofs.Yteiojpglhmikoaa.Gr Go.Proofs.Yteiojpglhmikoaa.Attr
set_option linter.unusedVariables false
set_option maxRecDepth 100000 in
set_option maxHeartbeats 3200000 in
theorem appendRun_any (A : Option Addr) (n c base : Nat) (zs : List Int) (r fg bg : Int) (b u t : Bool) (k : Nat) (w : World) (ho : Own w base A n c zs) (hbase : base ≤ w.heap.size) (hn : n ≤ 4294967296) (hk : k ≤ 4294967295) (hx : okC ⟨r, fg, bg, b, u, t⟩ = true) :
    Calls Try.prog 63 #[.slice A n c, .agg #[.int .i64 r, .int .i64 fg, .int .i64 bg, .bool b, .bool u, .bool t], .int .i64 (k : Int)] w fun e w' => ∃ A' n' c', e = .returned (.slice A' n' c') ∧ Own w' base A' n' c' (zs ++ encC k ⟨r, fg, bg, b, u, t⟩) ∧ Grow w (.slice A n c) w' (.slice A' n' c') := by
  obtain ⟨g1, g2, g3, g4, g5⟩ := numC_bd hx
  obtain ⟨R, hR⟩ : ∃ R : Nat, r = (R : Int) := ⟨r.toNat, by have : 0 ≤ r := g2; omega⟩
  obtain ⟨N, hN⟩ : ∃ N : Nat, anV fg bg b u t = (N : Int) := ⟨(anV fg bg b u t).toNat, by have : 0 ≤ anV fg bg b u t := g3; omega⟩
  have eN : numC ⟨r, fg, bg, b, u, t⟩ = N := by unfold numC; show (anV fg bg b u t).toNat = N; rw [hN]; rfl
  have hNb : N < 648 := by rw [← eN]; exact g5
  have hRb : R ≤ 1114111 := by have : r.toNat ≤ 1114111 := g1; rw [hR] at this; simpa using this
  have HE := Lib.hid (show zs ++ encC k ⟨r, fg, bg, b, u, t⟩ = zs ++ vEncs [k, R, N] by
    unfold encC; rw [eN]; show zs ++ (vEnc k ++ (vEnc r.toNat ++ vEnc N)) = _
    rw [hR, Int.toNat_natCast]; simp [vEncs])
  have l1 := vEnc_len5 hk
  have l2 := vEnc_len5 (n := R) (by omega)
  have HAN := Lib.hid (fun V => show Calls Try.prog 92 #[.agg #[.int .i64 fg, .int .i64 bg, .bool b, .bool u, .bool t]] V (fun e w' => e = .returned (.int .i64 (N : Int)) ∧ Below V.heap.size V w') from hN ▸ impl_AttrNum_any fg bg b u t V)
  subst hR
  have HB0 := Lib.hid ((Below.refl w.heap.size w).alloc (Nat.le_refl _) (.cells #[.int .i64 (R : Int), .int .i64 fg, .int .i64 bg, .bool b, .bool u, .bool t] 86))
  obtain ⟨W, hW⟩ : ∃ W, W = w.alloc (.cells #[.int .i64 (R : Int), .int .i64 fg, .int .i64 bg, .bool b, .bool u, .bool t] 86) := ⟨_, rfl⟩
  have HO0 := Lib.hid (show Own W.drew base A n c zs from by rw [hW]; exact (show Own (w.alloc _) base A n c zs from ho.below (Nat.le_refl _) HB0.out))
  have HR0 := Lib.hid (show Opq.RowB W.drew w.heap.size #[.int .i64 (R : Int), .int .i64 fg, .int .i64 bg, .bool b, .bool u, .bool t] from by rw [hW]; exact Opq.RowB.new w _ _)
  have HNE := Lib.hid (show (Value.slice A n c).ownBlock ≠ some w.heap.size from fun e => by have := (ho.blk _ e).2; omega)
  have HG0 := Lib.hid (show Grow w (.slice A n c) W.drew (.slice A n c) from by rw [hW]; exact ⟨⟨HB0.out.os, HB0.out.tape, HB0.out.output, HB0.out.size, fun i hi _ => HB0.out.block i hi⟩, fun g h => .inl h⟩)
  have HLN := Lib.hid ho.len
  have hbW : base ≤ W.drew.heap.size := by rw [hW]; simp; omega
  have k0 : W.cell? ⟨w.heap.size, 0, none⟩ = some (.int .i64 (R : Int)) := HR0.out.cell 0
  have k1 : W.cell? ⟨w.heap.size, 1, none⟩ = some (.int .i64 fg) := HR0.out.cell 1
  have k2 : W.cell? ⟨w.heap.size, 2, none⟩ = some (.int .i64 bg) := HR0.out.cell 2
  have k3 : W.cell? ⟨w.heap.size, 3, none⟩ = some (.bool b) := HR0.out.cell 3
  have k4 : W.cell? ⟨w.heap.size, 4, none⟩ = some (.bool u) := HR0.out.cell 4
  have k5 : W.cell? ⟨w.heap.size, 5, none⟩ = some (.bool t) := HR0.out.cell 5
  clear hx g1 g2 g3 g4 g5 hN eN ho
  go_enter Try.func63, Try.ntmps63
  go_upto_region 1 with fail
  rw [← hW]
  clear hW
  go_region_held3 (fun w' => w'.cell? ⟨w.heap.size, 0, none⟩ = some (.int .i64 (R : Int)) ∧ w'.cell? ⟨w.heap.size, 1, none⟩ = some (.int .i64 fg) ∧ w'.cell? ⟨w.heap.size, 2, none⟩ = some (.int .i64 bg) ∧ w'.cell? ⟨w.heap.size, 3, none⟩ = some (.bool b) ∧ w'.cell? ⟨w.heap.size, 4, none⟩ = some (.bool u) ∧ w'.cell? ⟨w.heap.size, 5, none⟩ = some (.bool t)) (first | assumption | go_keep) (first
    | (go_at_call 92; (with_reducible refine (HAN.out _).mono ?_); rintro e v1 ⟨rfl, hb1⟩; have HO1 := Lib.hid (HO0.out.below (Nat.le_refl _) hb1); have HR1 := Lib.hid (HR0.out.below hb1 HR0.out.lt); have HG1 := Lib.hid (HG0.out.belowR hb1); have j10 : v1.cell? ⟨w.heap.size, 0, none⟩ = some (.int .i64 (R : Int)) := HR1.out.cell 0; have j11 : v1.cell? ⟨w.heap.size, 1, none⟩ = some (.int .i64 fg) := HR1.out.cell 1; have j12 : v1.cell? ⟨w.heap.size, 2, none⟩ = some (.int .i64 bg) := HR1.out.cell 2; have j13 : v1.cell? ⟨w.heap.size, 3, none⟩ = some (.bool b) := HR1.out.cell 3; have j14 : v1.cell? ⟨w.heap.size, 4, none⟩ = some (.bool u) := HR1.out.cell 4; have j15 : v1.cell? ⟨w.heap.size, 5, none⟩ = some (.bool t) := HR1.out.cell 5; have hz1 : base ≤ v1.heap.size := by { have := hb1.size; omega }; have hlt1 : w.heap.size < v1.heap.size := HR1.out.lt; have hne1 : w.heap.size ≠ v1.heap.size := (by omega); clear hb1)
    | (go_at_call 50; (with_reducible refine (appendVars_row A n c base v1.heap.size 3 3 zs [k, R, N] _ #[.int .i64 (k : Int), .int .i64 (R : Int), .int .i64 (N : Int)] (HO1.out.below (Nat.le_refl _) ((Below.refl _ _).alloc (Nat.le_refl _) _)) (by simp; omega) rfl (by omega) (by omega) (by intro x hx; simp at hx; omega) hn (Opq.RowB.new v1 _ _) (row3 k R N) (fun e => by have := (HO1.out.blk _ e).2; omega)).mono ?_); rintro e v2 ⟨A2, n2, c2, rfl, ho2, hg2⟩; have HO2 := Lib.hid ho2; have HG2 := Lib.hid ((HG1.out.belowR ((Below.refl _ _).alloc (Nat.le_refl _) _)).trans hg2); have HR2 := Lib.hid (hg2.row (HR1.out.alloc _) (fun e => by have := HNE.out; exact this e)).1; have j20 : v2.cell? ⟨w.heap.size, 0, none⟩ = some (.int .i64 (R : Int)) := HR2.out.cell 0; have j21 : v2.cell? ⟨w.heap.size, 1, none⟩ = some (.int .i64 fg) := HR2.out.cell 1; have j22 : v2.cell? ⟨w.heap.size, 2, none⟩ = some (.int .i64 bg) := HR2.out.cell 2; have j23 : v2.cell? ⟨w.heap.size, 3, none⟩ = some (.bool b) := HR2.out.cell 3; have j24 : v2.cell? ⟨w.heap.size, 4, none⟩ = some (.bool u) := HR2.out.cell 4; have j25 : v2.cell? ⟨w.heap.size, 5, none⟩ = some (.bool t) := HR2.out.cell 5; clear ho2 hg2))
  all_goals
    go_wp2_with fail
    go_ret
    exact ⟨_, _, _, rfl, HE.out ▸ HO2.out, HG2.out⟩
end Go.Proofs.Yteiojpglhmikoaa.Cb

