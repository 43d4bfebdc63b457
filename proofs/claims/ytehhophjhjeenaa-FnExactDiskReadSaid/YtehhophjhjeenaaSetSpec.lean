/- Contracts of the setting of a disk's room and fuse, in the program and in the model. -/
import Derived.Test.YtehhophjhjeenaaCopySpec
import Derived.Test.YtehhophjhjeenaaDiskMath
namespace Go.Proofs.Ytehhophjhjeenaa.DOk
open Go.RowKit Go.Proofs.Ytehhophjhjeenaa.Bytes Go.Proofs.Ytehhophjhjeenaa.Rows_
set_option linter.unusedVariables false

theorem BoxW.set0 {w : World} {b : Nat} {x0 x1 x2 x3 x4 x5 : Value} (h : BoxW w b #[x0, x1, x2, x3, x4, x5]) (v : Value) : BoxW (w.setCell ⟨b, 0, none⟩ v) b #[v, x1, x2, x3, x4, x5] := by
  unfold BoxW at h ⊢; simp [World.setCell, Array.getElem?_modify, h]
theorem BoxW.set1 {w : World} {b : Nat} {x0 x1 x2 x3 x4 x5 : Value} (h : BoxW w b #[x0, x1, x2, x3, x4, x5]) (v : Value) : BoxW (w.setCell ⟨b, 1, none⟩ v) b #[x0, v, x2, x3, x4, x5] := by
  unfold BoxW at h ⊢; simp [World.setCell, Array.getElem?_modify, h]
theorem BoxW.new (w : World) (cs : Array Value) : BoxW (w.alloc (.cells cs 51)) w.heap.size cs := heap_alloc_new w _
/-- what a function answers that gives a disk: one of the call's own, as 'D' says of its data -/
def AnsDisk (D : Int → Int → Int → List FileD → List LinkD → List TurnD → Value → Prop) (w : World) (e : Ending) (w' : World) : Prop :=
  ∃ (r f x : Int) (F : Option Addr) (nf cf : Nat) (gs : List FileD) (K : Option Addr) (nk ck : Nat) (ks : List LinkD) (T : Option Addr) (nt ct : Nat) (ts : List TurnD) (o : Value),
    e = .returned (.tuple #[.agg #[.int .i64 r, .int .i64 f, .int .i64 x, .slice F nf cf, .slice K nk ck, .slice T nt ct], o]) ∧ OwnD w' w.heap.size F nf cf gs K nk ck ks T nt ct ts ∧ D r f x gs ks ts o ∧ Below w.heap.size w w'
def SetD (P : Prop) (room fuse next : Int) (fs : List FileD) (ks : List LinkD) (ts : List TurnD) (r f x : Int) (gs : List FileD) (ks' : List LinkD) (ts' : List TurnD) (o : Value) : Prop :=
  (P ∧ o = .bool true ∧ r = room ∧ f = fuse ∧ x = next ∧ gs.map keyF = fs.map keyF ∧ ks' = ks ∧ ts' = ts) ∨ (¬ P ∧ o = .bool false ∧ r = 0 ∧ f = 0 ∧ x = 0 ∧ gs = [] ∧ ks' = [] ∧ ts' = [])
theorem ownD_nil (w : World) (B : Nat) : OwnD w B none 0 0 [] none 0 0 [] none 0 0 [] := ⟨World.ownsRow_nil w B _ _, OwnBs.nil w B, World.ownsRow_nil w B _ _, World.ownsRow_nil w B _ _⟩
theorem OwnD.below {w w' : World} {base B : Nat} {F : Option Addr} {nf cf : Nat} {gs : List FileD} {K : Option Addr} {nk ck : Nat} {ks : List LinkD} {T : Option Addr} {nt ct : Nat} {ts : List TurnD} (h : OwnD w base F nf cf gs K nk ck ks T nt ct ts) (hB : w.heap.size ≤ B) (hb : Below B w w') : OwnD w' base F nf cf gs K nk ck ks T nt ct ts :=
  ⟨own_belowK h.f hB hb, h.b.below hB hb, own_belowK h.l hB hb, own_belowK h.t hB hb⟩
theorem OwnD.more {w : World} {base base' : Nat} {F : Option Addr} {nf cf : Nat} {gs : List FileD} {K : Option Addr} {nk ck : Nat} {ks : List LinkD} {T : Option Addr} {nt ct : Nat} {ts : List TurnD} (h : OwnD w base F nf cf gs K nk ck ks T nt ct ts) (hB : base' ≤ base) : OwnD w base' F nf cf gs K nk ck ks T nt ct ts :=
  ⟨own_moreK h.f hB, ⟨fun f hf => (h.b.1 f hf).more hB, h.b.2⟩, own_moreK h.l hB, own_moreK h.t hB⟩
theorem OwnD.set {w : World} {base c j : Nat} {v : Value} {F : Option Addr} {nf cf : Nat} {gs : List FileD} {K : Option Addr} {nk ck : Nat} {ks : List LinkD} {T : Option Addr} {nt ct : Nat} {ts : List TurnD} (h : OwnD w base F nf cf gs K nk ck ks T nt ct ts) (hc : ∀ i, SD F nf cf gs K nk ck T nt ct i → i ≠ c) : OwnD (w.setCell ⟨c, j, none⟩ v) base F nf cf gs K nk ck ks T nt ct ts :=
  ⟨own_setNe h.f c j v (fun e => hc c (.inl (.inl e)) rfl), ⟨fun f hf => own_setNe (h.b.1 f hf) c j v (fun e => hc c (.inl (.inr ⟨f, hf, e⟩)) rfl), h.b.2⟩, own_setNe h.l c j v (fun e => hc c (.inr (.inl e)) rfl), own_setNe h.t c j v (fun e => hc c (.inr (.inr e)) rfl)⟩
theorem OwnD.set6 {w : World} {base c : Nat} {F : Option Addr} {nf cf : Nat} {gs : List FileD} {K : Option Addr} {nk ck : Nat} {ks : List LinkD} {T : Option Addr} {nt ct : Nat} {ts : List TurnD} (h : OwnD w base F nf cf gs K nk ck ks T nt ct ts) (hc : ∀ i, SD F nf cf gs K nk ck T nt ct i → i ≠ c) (x1 x2 x3 x4 x5 x6 : Value) :
    OwnD ((((((w.setCell ⟨c, 0, none⟩ x1).setCell ⟨c, 1, none⟩ x2).setCell ⟨c, 2, none⟩ x3).setCell ⟨c, 3, none⟩ x4).setCell ⟨c, 4, none⟩ x5).setCell ⟨c, 5, none⟩ x6) base F nf cf gs K nk ck ks T nt ct ts :=
  (((((h.set hc).set hc).set hc).set hc).set hc).set hc
theorem below_set6 {B c : Nat} {a w : World} (h : Below B a w) (hc : B ≤ c) (x1 x2 x3 x4 x5 x6 : Value) :
    Below B a ((((((w.setCell ⟨c, 0, none⟩ x1).setCell ⟨c, 1, none⟩ x2).setCell ⟨c, 2, none⟩ x3).setCell ⟨c, 3, none⟩ x4).setCell ⟨c, 4, none⟩ x5).setCell ⟨c, 5, none⟩ x6) :=
  (((((h.setCell hc _).setCell hc _).setCell hc _).setCell hc _).setCell hc _).setCell hc _

set_option maxRecDepth 100000 in
set_option maxHeartbeats 3200000 in
theorem spec_DiskSet_any (room fuse next : Int) (F : Option Addr) (nf cf : Nat) (K : Option Addr) (nk ck : Nat) (T : Option Addr) (nt ct : Nat) (fs : List FileD) (ks : List LinkD) (ts : List TurnD) (room' fuse' : Int) (w : World)
    (hf : RdF w w.heap.size F fs) (hfl : fs.length = nf) (hfn : nf ≤ 2000000) (hFA : F = none → nf = 0 ∧ cf = 0) (hrb : RdB w w.heap.size fs) (hba : ∀ f ∈ fs, f.A = none → f.n = 0 ∧ f.c = 0) (hfid : ∀ x ∈ fs, (Lit.int .i64 x.id).wf = true) (hu : usedD fs ≤ 1099511627776)
    (hk : RdL w w.heap.size K ks) (hkl : ks.length = nk) (hkn : nk ≤ 2000000) (hKA : K = none → nk = 0 ∧ ck = 0) (hks : ∀ x ∈ ks, x.1.size ≤ maxLen ∧ (Lit.int .i64 x.2).wf = true) (ht : RdT w w.heap.size T ts) (htl : ts.length = nt) (htn : nt ≤ 2000000) (hTA : T = none → nt = 0 ∧ ct = 0) (hts : ∀ x ∈ ts, x.name.size ≤ maxLen ∧ x.to_.size ≤ maxLen ∧ (Lit.int .i64 x.id).wf = true) :
    Calls Try.prog 37 #[.agg #[.int .i64 room, .int .i64 fuse, .int .i64 next, .slice F nf cf, .slice K nk ck, .slice T nt ct], .int .i64 room', .int .i64 fuse'] w (AnsDisk (SetD (OkS room fuse next fs ks ts ∧ OkS room' fuse' next fs ks ts) room' fuse' next fs ks ts) w) := by
  have hb0 := (((Below.refl w.heap.size w).alloc (Nat.le_refl _) (.cells #[.int .i64 room, .int .i64 fuse, .int .i64 next, .slice F nf cf, .slice K nk ck, .slice T nt ct] 51)).alloc (by simp) (.cells #[.int .i64 0, .int .i64 0, .int .i64 0, .slice none 0 0, .slice none 0 0, .slice none 0 0] 51))
  have hbx0 : BoxW ((w.alloc (.cells #[.int .i64 room, .int .i64 fuse, .int .i64 next, .slice F nf cf, .slice K nk ck, .slice T nt ct] 51)).alloc (.cells #[.int .i64 0, .int .i64 0, .int .i64 0, .slice none 0 0, .slice none 0 0, .slice none 0 0] 51)) w.heap.size #[.int .i64 room, .int .i64 fuse, .int .i64 next, .slice F nf cf, .slice K nk ck, .slice T nt ct] := by
    unfold BoxW; rw [Below.heap_alloc _ _ _ (by simp)]; exact heap_alloc_new w _
  have hby0 : BoxW ((w.alloc (.cells #[.int .i64 room, .int .i64 fuse, .int .i64 next, .slice F nf cf, .slice K nk ck, .slice T nt ct] 51)).alloc (.cells #[.int .i64 0, .int .i64 0, .int .i64 0, .slice none 0 0, .slice none 0 0, .slice none 0 0] 51)) (w.heap.size + 1) #[.int .i64 0, .int .i64 0, .int .i64 0, .slice none 0 0, .slice none 0 0, .slice none 0 0] := by
    have := heap_alloc_new (w.alloc (.cells #[.int .i64 room, .int .i64 fuse, .int .i64 next, .slice F nf cf, .slice K nk ck, .slice T nt ct] 51)) (.cells #[.int .i64 0, .int .i64 0, .int .i64 0, .slice none 0 0, .slice none 0 0, .slice none 0 0] 51)
    unfold BoxW; simpa using this
  have HCopy := Lib.hid (fun W (h : Below w.heap.size w W) => l02Copy_any room fuse next F nf cf K nk ck T nt ct fs ks ts W ((hf.below (Nat.le_refl _) h).more h.size) hfl (by omega) ((hrb.below (Nat.le_refl _) h).more h.size) hba (fun f hf => Nat.le_trans (n_used hf) hu) ((hk.below (Nat.le_refl _) h).more h.size) hkl (by omega) hKA ((ht.below (Nat.le_refl _) h).more h.size) htl (by omega) hTA)
  have HOk := Lib.hid (fun W (h : Below w.heap.size w W) => specOk_any room fuse next F nf cf K nk ck T nt ct fs ks ts W ((hf.below (Nat.le_refl _) h).more h.size) hfl hu ((hk.below (Nat.le_refl _) h).more h.size) hkl (fun x hx => (hks x hx).1) ((ht.below (Nat.le_refl _) h).more h.size) htl (fun x hx => ⟨(hts x hx).1, (hts x hx).2.1⟩))
  have HOk2 := Lib.hid (fun (W : World) (B : Nat) (F1 : Option Addr) (cf1 : Nat) (K1 : Option Addr) (ck1 : Nat) (T1 : Option Addr) (ct1 : Nat) (gs : List FileD) (h : OwnD W B F1 nf cf1 gs K1 nk ck1 ks T1 nt ct1 ts) (hg : gs.map keyF = fs.map keyF) => specOk_any room' fuse' next F1 nf cf1 K1 nk ck1 T1 nt ct1 gs ks ts W h.f.rd ((keys_len hg).trans hfl) (by rw [keys_used hg]; exact hu) h.l.rd hkl (fun x hx => (hks x hx).1) h.t.rd htl (fun x hx => ⟨(hts x hx).1, (hts x hx).2.1⟩))
  have HB0 := Lib.hid hb0
  have HX0 := Lib.hid hbx0
  have HY0 := Lib.hid hby0
  clear hf hfl hrb hba hfid hu hk hkl hks ht htl hts hb0 hbx0 hby0
  go_enter Try.func37, Try.ntmps37
  have q0 := HX0.out.cell 0
  have q1 := HX0.out.cell 1
  have q2 := HX0.out.cell 2
  have q3 := HX0.out.cell 3
  have q4 := HX0.out.cell 4
  have q5 := HX0.out.cell 5
  go_wp2_with fail
  refine (HCopy.out _ HB0.out).mono ?_
  rintro e v1 ⟨F1, cf1, K1, ck1, T1, ct1, gs, rfl, ho1, hg1, hb1⟩
  have hx1 := HX0.out.below hb1 (by simp <;> omega)
  have HY1 := Lib.hid (HY0.out.below hb1 (by simp <;> omega))
  have hz1 : w.heap.size + 1 < v1.heap.size := HY1.out.lt
  have hz1a : w.heap.size < v1.heap.size := by omega
  have HB1 := Lib.hid (HB0.out.trans (hb1.mono (by simp; omega)))
  have HO1 := Lib.hid (ho1.more (base' := w.heap.size + 2) (by simp))
  have HG1 := Lib.hid hg1
  have p0 : v1.cell? ⟨w.heap.size, 0, none⟩ = some (.int .i64 room) := hx1.cell 0
  have p1 : v1.cell? ⟨w.heap.size, 1, none⟩ = some (.int .i64 fuse) := hx1.cell 1
  have p2 : v1.cell? ⟨w.heap.size, 2, none⟩ = some (.int .i64 next) := hx1.cell 2
  have p3 : v1.cell? ⟨w.heap.size, 3, none⟩ = some (.slice F nf cf) := hx1.cell 3
  have p4 : v1.cell? ⟨w.heap.size, 4, none⟩ = some (.slice K nk ck) := hx1.cell 4
  have p5 : v1.cell? ⟨w.heap.size, 5, none⟩ = some (.slice T nt ct) := hx1.cell 5
  have hba := (Below.refl v1.heap.size v1).alloc (Nat.le_refl _) (.cells #[.int .i64 room', .int .i64 fuse', .int .i64 next, .slice F1 nf cf1, .slice K1 nk ck1, .slice T1 nt ct1] 51)
  have HY2 := Lib.hid (HY1.out.below hba (by omega))
  have HO2 := Lib.hid (HO1.out.below (Nat.le_refl _) hba)
  have HB2 := Lib.hid (HB1.out.trans (hba.mono (by omega)))
  have HX2 := Lib.hid (BoxW.new v1 #[.int .i64 room', .int .i64 fuse', .int .i64 next, .slice F1 nf cf1, .slice K1 nk ck1, .slice T1 nt ct1])
  clear hx1 hb1 ho1 hg1 hba q0 q1 q2 q3 q4 q5
  go_wp2_with fail
  refine (HOk.out _ HB2.out).mono ?_
  rintro e v3 ⟨b1, rfl, hv1, hb3⟩
  have HY3 := Lib.hid (HY2.out.below hb3 (by simp; omega))
  have HX3 := Lib.hid (HX2.out.below hb3 (by simp))
  have HO3 := Lib.hid (HO2.out.below (Nat.le_refl _) hb3)
  have HB3 := Lib.hid (HB2.out.trans (hb3.mono (by simp; omega)))
  have hz3 : w.heap.size + 1 < v3.heap.size := HY3.out.lt
  clear hb3
  cases b1
  · have HP := Lib.hid (show ¬ (OkS room fuse next fs ks ts ∧ OkS room' fuse' next fs ks ts) from fun h => by have := hv1.2 h.1; simp at this)
    have HB := HB3
    clear hv1
    have y0 := HY3.out.cell 0
    have z0 := HY3.out.free 0
    have y1 := HY3.out.cell 1
    have z1 := HY3.out.free 1
    have y2 := HY3.out.cell 2
    have z2 := HY3.out.free 2
    have y3 := HY3.out.cell 3
    have z3 := HY3.out.free 3
    have y4 := HY3.out.cell 4
    have z4 := HY3.out.free 4
    have y5 := HY3.out.cell 5
    have z5 := HY3.out.free 5
    go_wp2_with fail
    refine bodyPost_ret (v := .tuple #[.agg #[.int .i64 0, .int .i64 0, .int .i64 0, .slice none 0 0, .slice none 0 0, .slice none 0 0], .bool false]) (by simp [results, Try.results37, go_sem, y0, y1, y2, y3, y4, y5]) rfl ⟨0, 0, 0, none, 0, 0, [], none, 0, 0, [], none, 0, 0, [], _, rfl, ownD_nil _ _, .inr ⟨HP.out, rfl, rfl, rfl, rfl, rfl, rfl, rfl⟩, ?_⟩
    exact below_set6 HB.out (by omega) _ _ _ _ _ _
  · have hq := hv1.1 rfl
    have HQ := Lib.hid hq
    have x0 := HX3.out.cell 0
    have x1 := HX3.out.cell 1
    have x2 := HX3.out.cell 2
    have x3 := HX3.out.cell 3
    have x4 := HX3.out.cell 4
    have x5 := HX3.out.cell 5
    clear hv1 hq
    go_wp2_with fail
    refine (HOk2.out _ _ F1 cf1 K1 ck1 T1 ct1 gs HO3.out HG1.out).mono ?_
    rintro e v4 ⟨b2, rfl, hv2, hb4⟩
    have HY4 := Lib.hid (HY3.out.below hb4 (by omega))
    have HX4 := Lib.hid (HX3.out.below hb4 HX3.out.lt)
    have HO := Lib.hid (HO3.out.below (Nat.le_refl _) hb4)
    have HB := Lib.hid (HB3.out.trans (hb4.mono (by omega)))
    have hv3 := hv2.trans (okS_iff HG1.out)
    clear hb4 x0 x1 x2 x3 x4 x5
    cases b2
    · have HP := Lib.hid (show ¬ (OkS room fuse next fs ks ts ∧ OkS room' fuse' next fs ks ts) from fun h => by have := hv3.2 h.2; simp at this)
      clear hv2 hv3
      have y0 := HY4.out.cell 0
      have z0 := HY4.out.free 0
      have y1 := HY4.out.cell 1
      have z1 := HY4.out.free 1
      have y2 := HY4.out.cell 2
      have z2 := HY4.out.free 2
      have y3 := HY4.out.cell 3
      have z3 := HY4.out.free 3
      have y4 := HY4.out.cell 4
      have z4 := HY4.out.free 4
      have y5 := HY4.out.cell 5
      have z5 := HY4.out.free 5
      go_wp2_with fail
      refine bodyPost_ret (v := .tuple #[.agg #[.int .i64 0, .int .i64 0, .int .i64 0, .slice none 0 0, .slice none 0 0, .slice none 0 0], .bool false]) (by simp [results, Try.results37, go_sem, y0, y1, y2, y3, y4, y5]) rfl ⟨0, 0, 0, none, 0, 0, [], none, 0, 0, [], none, 0, 0, [], _, rfl, ownD_nil _ _, .inr ⟨HP.out, rfl, rfl, rfl, rfl, rfl, rfl, rfl⟩, ?_⟩
      exact below_set6 HB.out (by omega) _ _ _ _ _ _
    · have HP := Lib.hid (show OkS room fuse next fs ks ts ∧ OkS room' fuse' next fs ks ts from ⟨HQ.out, hv3.1 rfl⟩)
      clear hv2 hv3
      have y0 := HY4.out.cell 0
      have z0 := HY4.out.free 0
      have y1 := HY4.out.cell 1
      have z1 := HY4.out.free 1
      have y2 := HY4.out.cell 2
      have z2 := HY4.out.free 2
      have y3 := HY4.out.cell 3
      have z3 := HY4.out.free 3
      have y4 := HY4.out.cell 4
      have z4 := HY4.out.free 4
      have y5 := HY4.out.cell 5
      have z5 := HY4.out.free 5
      have x0 := HX4.out.cell 0
      have x1 := HX4.out.cell 1
      have x2 := HX4.out.cell 2
      have x3 := HX4.out.cell 3
      have x4 := HX4.out.cell 4
      have x5 := HX4.out.cell 5
      go_wp2_with fail
      refine bodyPost_ret (v := .tuple #[.agg #[.int .i64 room', .int .i64 fuse', .int .i64 next, .slice F1 nf cf1, .slice K1 nk ck1, .slice T1 nt ct1], .bool true]) (by simp [results, Try.results37, go_sem, y0, y1, y2, y3, y4, y5]) rfl ⟨room', fuse', next, F1, nf, cf1, gs, K1, nk, ck1, ks, T1, nt, ct1, ts, _, rfl, ?_, .inl ⟨HP.out, rfl, rfl, rfl, rfl, HG1.out, rfl, rfl⟩, ?_⟩
      · exact OwnD.more (OwnD.set6 HO.out (fun i hi => by have := (HO.out.lt i hi).1; omega) _ _ _ _ _ _) (by omega)
      · exact below_set6 HB.out (by omega) _ _ _ _ _ _
end Go.Proofs.Ytehhophjhjeenaa.DOk
