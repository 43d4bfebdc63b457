/- A run of cells appended as bytes, in the program. -/
import Derived.Test.YtbifbeahakchjaaCbImpl
import Derived.Test.YtbifbeahakchjaaKiA
import Derived.Deep.Cut
import Derived.Deep.CutRange
import Derived.Deep.DeepCutAuto
namespace Go.Proofs.Ytbifbeahakchjaa.Cb
open Go.RowKit Go.Proofs.Ytbifbeahakchjaa.Bytes Go.Proofs.Ytbifbeahakchjaa.Rows_ Go.Proofs.Ytbifbeahakchjaa.DOk Go.Proofs.Ytbifbeahakchjaa.RowK Go.Proofs.Ytbifbeahakchjaa.Var Go.Proofs.Ytbifbeahakchjaa.Gr Go.Proofs.Ytbifbeahakchjaa.Attr
set_option linter.unusedVariables false
theorem Grow.belowR {a b c : World} {u v : Value} (h : Grow a u b v) (k : Below b.heap.size b c) : Grow a u c v :=
  ⟨⟨k.os.trans h.1.os, k.tape.trans h.1.tape, k.output.trans h.1.output, Nat.le_trans h.1.size k.size, fun i hi hn => by rw [k.block i (Nat.lt_of_lt_of_le hi h.1.size), h.1.block i hi hn]⟩, h.2⟩
theorem Grow.row {a b : World} {u v : Value} {g : Nat} {C : Array Value} (h : Grow a u b v) (hr : Opq.RowB a g C) (hn : u.ownBlock ≠ some g) : Opq.RowB b g C ∧ v.ownBlock ≠ some g :=
  ⟨hr.only h.1 (fun e => hn e), fun e => (h.2 g e).elim hn (fun hl => by have := hr.lt; omega)⟩
/-- a number appended, beside a box -/
theorem appVarBox (A : Option Addr) (n c base g : Nat) (C : Array Value) (zs : List Int) (m : Nat) (w : World) (ho : Own w base A n c zs) (hbase : base ≤ w.heap.size) (hn : n ≤ 17179869184) (hm : m ≤ 4294967295) (hr : Opq.RowB w g C) (hne : (Value.slice A n c).ownBlock ≠ some g) :
    Calls Try.prog 114 #[.slice A n c, .int .i64 m] w fun e w' => ∃ A' n' c', e = .returned (.slice A' n' c') ∧ Own w' base A' n' c' (zs ++ vEnc m) ∧ Grow w (.slice A n c) w' (.slice A' n' c') ∧ Opq.RowB w' g C ∧ (Value.slice A' n' c').ownBlock ≠ some g :=
  (appendVarG_any A n c base zs m w ho hbase hn hm).mono fun e w' ⟨A', n', c', he, h1, h2⟩ => ⟨A', n', c', he, h1, h2, (h2.row hr hne).1, (h2.row hr hne).2⟩
set_option maxRecDepth 100000 in
set_option maxHeartbeats 3200000 in
theorem appendRun_any (A : Option Addr) (n c base : Nat) (zs : List Int) (r fg bg : Int) (b u t : Bool) (k : Nat) (w : World) (ho : Own w base A n c zs) (hbase : base ≤ w.heap.size) (hn : n ≤ 4294967296) (hk : k ≤ 4294967295) (hx : okC ⟨r, fg, bg, b, u, t⟩ = true) :
    Calls Try.prog 50 #[.slice A n c, .agg #[.int .i64 r, .int .i64 fg, .int .i64 bg, .bool b, .bool u, .bool t], .int .i64 (k : Int)] w fun e w' => ∃ A' n' c', e = .returned (.slice A' n' c') ∧ Own w' base A' n' c' (zs ++ encC k ⟨r, fg, bg, b, u, t⟩) ∧ Grow w (.slice A n c) w' (.slice A' n' c') := by
  obtain ⟨g1, g2, g3, g4, g5⟩ := numC_bd hx
  obtain ⟨R, hR⟩ : ∃ R : Nat, r = (R : Int) := ⟨r.toNat, by have : 0 ≤ r := g2; omega⟩
  obtain ⟨N, hN⟩ : ∃ N : Nat, anV fg bg b u t = (N : Int) := ⟨(anV fg bg b u t).toNat, by have : 0 ≤ anV fg bg b u t := g3; omega⟩
  have eN : numC ⟨r, fg, bg, b, u, t⟩ = N := by unfold numC; show (anV fg bg b u t).toNat = N; rw [hN]; rfl
  have hNb : N < 648 := by rw [← eN]; exact g5
  have hRb : R ≤ 1114111 := by have : r.toNat ≤ 1114111 := g1; rw [hR] at this; simpa using this
  have HE := Lib.hid (show zs ++ encC k ⟨r, fg, bg, b, u, t⟩ = ((zs ++ vEnc k) ++ vEnc R) ++ vEnc N by
    unfold encC; rw [eN]; show zs ++ (vEnc k ++ (vEnc r.toNat ++ vEnc N)) = _
    rw [hR, Int.toNat_natCast]; simp only [List.append_assoc])
  have l1 := vEnc_len5 hk
  have l2 := vEnc_len5 (n := R) (by omega)
  have HAN := Lib.hid (fun V => show Calls Try.prog 115 #[.agg #[.int .i64 fg, .int .i64 bg, .bool b, .bool u, .bool t]] V (fun e w' => e = .returned (.int .i64 (N : Int)) ∧ Below V.heap.size V w') from hN ▸ impl_AttrNum_any fg bg b u t V)
  subst hR
  have HB0 := Lib.hid ((Below.refl w.heap.size w).alloc (Nat.le_refl _) (.cells #[.int .i64 (R : Int), .int .i64 fg, .int .i64 bg, .bool b, .bool u, .bool t] 69))
  obtain ⟨W, hW⟩ : ∃ W, W = w.alloc (.cells #[.int .i64 (R : Int), .int .i64 fg, .int .i64 bg, .bool b, .bool u, .bool t] 69) := ⟨_, rfl⟩
  have HO0 := Lib.hid (show Own W.drew base A n c zs from by rw [hW]; exact (show Own (w.alloc _) base A n c zs from ho.below (Nat.le_refl _) HB0.out))
  have HR0 := Lib.hid (show Opq.RowB W.drew w.heap.size #[.int .i64 (R : Int), .int .i64 fg, .int .i64 bg, .bool b, .bool u, .bool t] from by rw [hW]; exact Opq.RowB.new w _ _)
  have HNE := Lib.hid (show (Value.slice A n c).ownBlock ≠ some w.heap.size from fun e => by have := (ho.blk _ e).2; omega)
  have HG0 := Lib.hid (show Grow w (.slice A n c) W.drew (.slice A n c) from by rw [hW]; exact ⟨⟨HB0.out.os, HB0.out.tape, HB0.out.output, HB0.out.size, fun i hi _ => HB0.out.block i hi⟩, fun g h => .inl h⟩)
  have HLN := Lib.hid ho.len
  have hbW : base ≤ W.drew.heap.size := by rw [hW]; simp; omega
  have k0 : W.cell? ⟨w.heap.size, 0, none⟩ = some (.int .i64 (R : Int)) := HR0.out.cell 0
  have k1 : W.cell? ⟨w.heap.size, 1, none⟩ = some (.int .i64 fg) := HR0.out.cell 1
  have k2 : W.cell? ⟨w.heap.size, 2, none⟩ = some (.int .i64 bg) := HR0.out.cell 2
  have k3 : W.cell? ⟨w.heap.size, 3, none⟩ = some (.bool b) := HR0.out.cell 3
  have k4 : W.cell? ⟨w.heap.size, 4, none⟩ = some (.bool u) := HR0.out.cell 4
  have k5 : W.cell? ⟨w.heap.size, 5, none⟩ = some (.bool t) := HR0.out.cell 5
  have H1 := Lib.hid (appVarBox A n c base w.heap.size _ zs k W.drew HO0.out hbW (by omega) hk HR0.out HNE.out)
  clear hx g1 g2 g3 g4 g5 hN eN ho
  go_enter Try.func50, Try.ntmps50
  go_upto_region 1 with fail
  rw [← hW]
  clear hW
  go_region_held3 (fun w' => w'.cell? ⟨w.heap.size, 0, none⟩ = some (.int .i64 (R : Int)) ∧ w'.cell? ⟨w.heap.size, 1, none⟩ = some (.int .i64 fg) ∧ w'.cell? ⟨w.heap.size, 2, none⟩ = some (.int .i64 bg) ∧ w'.cell? ⟨w.heap.size, 3, none⟩ = some (.bool b) ∧ w'.cell? ⟨w.heap.size, 4, none⟩ = some (.bool u) ∧ w'.cell? ⟨w.heap.size, 5, none⟩ = some (.bool t)) (first | assumption | go_keep) (first
    | (go_at_call 115; (with_reducible refine (HAN.out _).mono ?_); rintro e v3 ⟨rfl, hb3⟩; have HB3 := Lib.hid hb3; have HO3 := Lib.hid (HO2.out.below (Nat.le_refl _) hb3); have HR3 := Lib.hid (HR2.out.below hb3 HR2.out.lt); have HG3 := Lib.hid (HG2.out.belowR hb3); have j30 : v3.cell? ⟨w.heap.size, 0, none⟩ = some (.int .i64 (R : Int)) := HR3.out.cell 0; have j31 : v3.cell? ⟨w.heap.size, 1, none⟩ = some (.int .i64 fg) := HR3.out.cell 1; have j32 : v3.cell? ⟨w.heap.size, 2, none⟩ = some (.int .i64 bg) := HR3.out.cell 2; have j33 : v3.cell? ⟨w.heap.size, 3, none⟩ = some (.bool b) := HR3.out.cell 3; have j34 : v3.cell? ⟨w.heap.size, 4, none⟩ = some (.bool u) := HR3.out.cell 4; have j35 : v3.cell? ⟨w.heap.size, 5, none⟩ = some (.bool t) := HR3.out.cell 5; have hz3 : base ≤ v3.heap.size := by { have := hb3.size; omega }; clear hb3)
    | (go_at_call 114; (with_reducible refine H1.out.mono ?_); rintro e v1 ⟨A1, n1, c1, rfl, ho1, hg1, hr1, hne1⟩; have HO1 := Lib.hid ho1; have HG1 := Lib.hid (HG0.out.trans hg1); have HR1 := Lib.hid hr1; have HN1 := Lib.hid hne1; have j10 : v1.cell? ⟨w.heap.size, 0, none⟩ = some (.int .i64 (R : Int)) := hr1.cell 0; have j11 : v1.cell? ⟨w.heap.size, 1, none⟩ = some (.int .i64 fg) := hr1.cell 1; have j12 : v1.cell? ⟨w.heap.size, 2, none⟩ = some (.int .i64 bg) := hr1.cell 2; have j13 : v1.cell? ⟨w.heap.size, 3, none⟩ = some (.bool b) := hr1.cell 3; have j14 : v1.cell? ⟨w.heap.size, 4, none⟩ = some (.bool u) := hr1.cell 4; have j15 : v1.cell? ⟨w.heap.size, 5, none⟩ = some (.bool t) := hr1.cell 5; have hz1 : base ≤ v1.heap.size := by { have := hg1.1.size; omega }; have hn1 : n1 ≤ n + 5 := by { have h := ho1.len; rw [List.length_append, HLN.out] at h; omega }; clear ho1 hg1 hr1 hne1)
    | (go_at_call 114; (with_reducible refine (appVarBox A1 n1 c1 base w.heap.size _ _ R _ HO1.out hz1 (by omega) (by omega) HR1.out HN1.out).mono ?_); rintro e v2 ⟨A2, n2, c2, rfl, ho2, hg2, hr2, hne2⟩; have HO2 := Lib.hid ho2; have HG2 := Lib.hid (HG1.out.trans hg2); have HR2 := Lib.hid hr2; have HN2 := Lib.hid hne2; have j20 : v2.cell? ⟨w.heap.size, 0, none⟩ = some (.int .i64 (R : Int)) := hr2.cell 0; have j21 : v2.cell? ⟨w.heap.size, 1, none⟩ = some (.int .i64 fg) := hr2.cell 1; have j22 : v2.cell? ⟨w.heap.size, 2, none⟩ = some (.int .i64 bg) := hr2.cell 2; have j23 : v2.cell? ⟨w.heap.size, 3, none⟩ = some (.bool b) := hr2.cell 3; have j24 : v2.cell? ⟨w.heap.size, 4, none⟩ = some (.bool u) := hr2.cell 4; have j25 : v2.cell? ⟨w.heap.size, 5, none⟩ = some (.bool t) := hr2.cell 5; have hz2 : base ≤ v2.heap.size := by { have := hg2.1.size; omega }; have hn2 : n2 ≤ n + 10 := by { have h := ho2.len; rw [List.length_append, List.length_append, HLN.out] at h; omega }; clear ho2 hg2 hr2 hne2)
    | (go_at_call 114; (with_reducible refine (appendVarG_any A2 n2 c2 base _ N _ HO3.out hz3 (by omega) (by omega)).mono ?_); rintro e v4 ⟨A4, n4, c4, rfl, ho4, hg4⟩; have HO4 := Lib.hid ho4; have HG4 := Lib.hid (HG3.out.trans hg4); have HR4 := Lib.hid (hg4.row HR3.out HN2.out).1; have j40 : v4.cell? ⟨w.heap.size, 0, none⟩ = some (.int .i64 (R : Int)) := HR4.out.cell 0; have j41 : v4.cell? ⟨w.heap.size, 1, none⟩ = some (.int .i64 fg) := HR4.out.cell 1; have j42 : v4.cell? ⟨w.heap.size, 2, none⟩ = some (.int .i64 bg) := HR4.out.cell 2; have j43 : v4.cell? ⟨w.heap.size, 3, none⟩ = some (.bool b) := HR4.out.cell 3; have j44 : v4.cell? ⟨w.heap.size, 4, none⟩ = some (.bool u) := HR4.out.cell 4; have j45 : v4.cell? ⟨w.heap.size, 5, none⟩ = some (.bool t) := HR4.out.cell 5; clear ho4 hg4))
  all_goals
    go_wp2_with fail
    go_ret
    exact ⟨_, _, _, rfl, HE.out ▸ HO4.out, HG4.out⟩
end Go.Proofs.Ytbifbeahakchjaa.Cb
