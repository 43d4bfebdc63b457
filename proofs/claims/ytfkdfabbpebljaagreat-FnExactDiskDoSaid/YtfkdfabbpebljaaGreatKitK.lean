/- Texts that lay in modules of their own: DoRow, DoRow2, DoGrow. -/
import Derived.Test.YtfkdfabbpebljaaGreatKitJ
import Derived.Test.YtfkdfabbpebljaaGreatKitF
namespace Go.Proofs.YtfkdfabbpebljaaGreat.DOk
open Go.RowKit Go.Proofs.YtfkdfabbpebljaaGreat.Bytes Go.Proofs.YtfkdfabbpebljaaGreat.Rows_
set_option linter.unusedVariables false
section
variable {w : World} {b base : Nat} {cs : Array Value} {g nf cf : Nat} {pre post : List FileD} {f : FileD} {K : Option Addr} {nk ck : Nat} {ks : List LinkD} {T : Option Addr} {nt ct : Nat} {ts : List TurnD}
theorem ownD_row (hb : BoxW w b cs) (ho : OwnD w base (some ⟨g, 0, none⟩) nf cf (pre ++ [f] ++ post) K nk ck ks T nt ct ts) (k : Nat) (hk : pre.length = k) (f' : FileD) (hB : OwnBs w base (pre ++ [f'] ++ post)) :
    BoxW (((w.setCell ⟨g, k * 3, none⟩ (.int .i64 f'.id)).setCell ⟨g, k * 3 + 1, none⟩ (.slice f'.A f'.n f'.c)).setCell ⟨g, k * 3 + 2, none⟩ (.int .i64 f'.safe)) b cs ∧ OwnD (((w.setCell ⟨g, k * 3, none⟩ (.int .i64 f'.id)).setCell ⟨g, k * 3 + 1, none⟩ (.slice f'.A f'.n f'.c)).setCell ⟨g, k * 3 + 2, none⟩ (.int .i64 f'.safe)) base (some ⟨g, 0, none⟩) nf cf (pre ++ [f'] ++ post) K nk ck ks T nt ct ts := by
  have hgb : b ≠ g := fun e => box_ne_row hb ho.f (by decide) (by rw [e]; rfl)
  have hblk : ∀ x ∈ pre ++ [f'] ++ post, blkF x ≠ some g := fun x hx e => own_ne (hB.1 x hx) ho.f (by decide) g e rfl
  have hl := fun e => own_ne ho.l ho.f (by decide) g e rfl
  have ht := fun e => own_ne ho.t ho.f (by decide) g e rfl
  refine ⟨((hb.other hgb).other hgb).other hgb, ⟨?_, ((hB.cell_ hblk).cell_ hblk).cell_ hblk, own_setNe (own_setNe (own_setNe ho.l g _ _ hl) g _ _ hl) g _ _ hl, own_setNe (own_setNe (own_setNe ho.t g _ _ ht) g _ _ ht) g _ _ ht⟩⟩
  have h := ho.f
  unfold OwnF at h ⊢
  rw [List.map_append, List.map_append] at h ⊢
  exact row3 (z0 := .int .i64 f.id) (z1 := .slice f.A f.n f.c) (z2 := .int .i64 f.safe) (.int .i64 f'.id) (.slice f'.A f'.n f'.c) (.int .i64 f'.safe) (file_len _) k (by rw [List.length_map]; exact hk) h
end
/-- the same list, cut at a file -/
theorem cut_at {gs fs : List FileD} (hg : gs.map keyF = fs.map keyF) {i0 : Nat} {z : Int} (hi : i0 < fs.length) (he : fs[i0].id = z) (hno : ∀ j (hj : j < fs.length), j < i0 → fs[j].id ≠ z) :
    ∃ pre f post, gs = pre ++ [f] ++ post ∧ pre.length = i0 ∧ f.id = z ∧ ∀ x ∈ pre, x.id ≠ z := by
  obtain ⟨hl, hs⟩ := same_of_keys hg
  have hi' : i0 < gs.length := by omega
  refine ⟨gs.take i0, gs[i0], gs.drop (i0 + 1), by rw [List.append_assoc]; simp, by rw [List.length_take]; omega, (hs i0 hi hi').1.trans he, ?_⟩
  intro x hx
  obtain ⟨j, hj, rfl⟩ := List.getElem_of_mem hx
  rw [List.length_take] at hj
  rw [List.getElem_take, (hs j (by omega) (by omega)).1]
  exact hno j (by omega) (by omega)
end Go.Proofs.YtfkdfabbpebljaaGreat.DOk
namespace Go.Proofs.YtfkdfabbpebljaaGreat.DOk
open Go.RowKit Go.Proofs.YtfkdfabbpebljaaGreat.Bytes Go.Proofs.YtfkdfabbpebljaaGreat.Rows_
set_option linter.unusedVariables false
theorem rd_cut {w : World} {B : Nat} {A : Option Addr} {zs : List Int} (h : Rd w B A zs) (k : Nat) : Rd w B A (zs.take k) := by
  intro hn
  have hn' : 0 < zs.length := by rw [List.length_take] at hn; omega
  obtain ⟨b, o, e, hlt, hc⟩ := h hn'
  refine ⟨b, o, e, hlt, fun j hj => ?_⟩
  have hj' : j < zs.length ∧ j < k := by rw [List.length_take] at hj; omega
  rw [hc j hj'.1]
  simp [List.getD, hj'.2]
/-- a file by value in a block -/
def BoxF (w : World) (b : Nat) (cs : Array Value) : Prop := w.heap[b]? = some (.cells cs 58 (0, 0))
theorem BoxF.cell {w : World} {b : Nat} {cs : Array Value} (h : BoxF w b cs) (j : Nat) : w.cell? ⟨b, j, none⟩ = cs[j]? := by unfold BoxF at h; simp [World.cell?, h]
theorem BoxF.free {w : World} {b : Nat} {cs : Array Value} (h : BoxF w b cs) (j : Nat) : w.frozen? ⟨b, j, none⟩ = false := by unfold BoxF at h; simp [World.frozen?, h]
theorem BoxF.lt {w : World} {b : Nat} {cs : Array Value} (h : BoxF w b cs) : b < w.heap.size := (Array.getElem?_eq_some_iff.1 h).1
theorem BoxF.new (w : World) (cs : Array Value) : BoxF (w.alloc (.cells cs 58)) w.heap.size cs := heap_alloc_new w _
theorem BoxF.only {S : Nat → Prop} {w w' : World} {b : Nat} {cs : Array Value} (h : BoxF w b cs) (on : Only S w w') (hn : ¬ S b) : BoxF w' b cs := by
  have hl := h.lt
  unfold BoxF at h ⊢; rw [on.block b hl hn]; exact h
theorem BoxF.set1 {w : World} {b : Nat} {x0 x1 x2 : Value} (h : BoxF w b #[x0, x1, x2]) (v : Value) : BoxF (w.setCell ⟨b, 1, none⟩ v) b #[x0, v, x2] := by
  unfold BoxF at h ⊢; simp [World.setCell, Array.getElem?_modify, h]
theorem BoxF.drew {w : World} {b : Nat} {cs : Array Value} (h : BoxF w b cs) : BoxF w.drew b cs := h
theorem BoxWdrew {w : World} {b : Nat} {cs : Array Value} (h : BoxW w b cs) : BoxW w.drew b cs := h
theorem OwnDdrew {w : World} {base : Nat} {F : Option Addr} {nf cf : Nat} {gs : List FileD} {K : Option Addr} {nk ck : Nat} {ks : List LinkD} {T : Option Addr} {nt ct : Nat} {ts : List TurnD} (h : OwnD w base F nf cf gs K nk ck ks T nt ct ts) : OwnD w.drew base F nf cf gs K nk ck ks T nt ct ts := ⟨h.f, h.b, h.l, h.t⟩
section
variable {w w1 : World} {b base : Nat} {cs : Array Value} {g nf cf : Nat} {pre post : List FileD} {f : FileD} {K : Option Addr} {nk ck : Nat} {ks : List LinkD} {T : Option Addr} {nt ct : Nat} {ts : List TurnD}
/-- the disk in the world in which the body has grown: all but that body -/
theorem ownD_grown {A' : Option Addr} {n' c' : Nat} {zs : List Int} (hb : BoxW w b cs) (ho : OwnD w base (some ⟨g, 0, none⟩) nf cf (pre ++ [f] ++ post) K nk ck ks T nt ct ts)
    (hB : Own w1 base A' n' c' zs) (hg : w.grownBy w1 (Value.slice f.A f.n f.c).ownBlock) (hnew : ∀ i, (Value.slice A' n' c').ownBlock = some i → (Value.slice f.A f.n f.c).ownBlock = some i ∨ w.heap.size ≤ i) :
    BoxW w1 b cs ∧ OwnF w1 base (some ⟨g, 0, none⟩) nf cf (pre ++ [f] ++ post) ∧ OwnL w1 base K nk ck ks ∧ OwnT w1 base T nt ct ts ∧ OwnBs w1 base (pre ++ [(⟨f.id, A', n', c', f.safe, zs⟩ : FileD)] ++ post) := by
  have on : Only (fun i => (Value.slice f.A f.n f.c).ownBlock = some i) w w1 := Only.grown hg fun i hi => hi
  have hfm : f ∈ pre ++ [f] ++ post := by simp
  have hb1 : BoxW w1 b cs := hb.only on (fun e => box_ne_row hb (ho.b.1 f hfm) (by decide) e)
  have hF1 : OwnF w1 base (some ⟨g, 0, none⟩) nf cf (pre ++ [f] ++ post) := Only.own ho.f on (fun i hi e => own_ne ho.f (ho.b.1 f hfm) (by decide) i hi e)
  have hL1 : OwnL w1 base K nk ck ks := Only.own ho.l on (fun i hi e => own_ne ho.l (ho.b.1 f hfm) (by decide) i hi e)
  have hT1 : OwnT w1 base T nt ct ts := Only.own ho.t on (fun i hi e => own_ne ho.t (ho.b.1 f hfm) (by decide) i hi e)
  refine ⟨hb1, hF1, hL1, hT1, ?_⟩
  have hsep := ho.b.2
  rw [List.append_assoc, List.pairwise_append] at hsep
  obtain ⟨s1, s2, s3⟩ := hsep
  rw [List.singleton_append, List.pairwise_cons] at s2
  have hpre : ∀ x ∈ pre, ∀ i, blkF x = some i → (Value.slice f.A f.n f.c).ownBlock ≠ some i := fun x hx i hi => s3 x hx f (by simp) i hi
  have hpost : ∀ x ∈ post, ∀ i, blkF x = some i → (Value.slice f.A f.n f.c).ownBlock ≠ some i := fun x hx i hi e => s2.1 x hx i e hi
  have hlt : ∀ x ∈ pre ++ [f] ++ post, ∀ i, blkF x = some i → i < w.heap.size := fun x hx i hi => ((ho.b.1 x hx).blk i hi).2
  refine ⟨fun x hx => ?_, ?_⟩
  · rcases List.mem_append.1 hx with hx | hx
    · rcases List.mem_append.1 hx with hx | hx
      · exact Only.own (ho.b.1 x (by simp [hx])) on (fun i hi e => hpre x hx i hi e)
      · rw [List.mem_singleton] at hx; subst hx; exact hB
    · exact Only.own (ho.b.1 x (by simp [hx])) on (fun i hi e => hpost x hx i hi e)
  · rw [List.append_assoc, List.pairwise_append]
    refine ⟨s1, ?_, fun x hx y hy => ?_⟩
    · rw [List.singleton_append, List.pairwise_cons]
      refine ⟨fun y hy i hi e => ?_, s2.2⟩
      rcases hnew i hi with h | h
      · exact s2.1 y hy i h e
      · have := hlt y (by simp [hy]) i e; omega
    · rcases List.mem_append.1 hy with hy | hy
      · rw [List.mem_singleton] at hy; subst hy
        intro i hi e
        rcases hnew i e with h | h
        · exact hpre x hx i hi h
        · have := hlt x (by simp [hx]) i hi; omega
      · exact s3 x hx y (by simp [hy])
theorem bs_ne {A' : Option Addr} {n' c' t : Nat} {s : Int} {zs : List Int} (ho : OwnBs w base (pre ++ [f] ++ post)) (hnew : ∀ i, (Value.slice A' n' c').ownBlock = some i → i ≠ t) (ht : w.heap.size ≤ t) : ∀ x ∈ pre ++ [(⟨f.id, A', n', c', s, zs⟩ : FileD)] ++ post, blkF x ≠ some t := by
  intro x hx e
  rcases List.mem_append.1 hx with hx | hx
  · rcases List.mem_append.1 hx with hx | hx
    · have := ((ho.1 x (by simp [hx])).blk t e).2; omega
    · rw [List.mem_singleton] at hx; subst hx; exact hnew t e rfl
  · have := ((ho.1 x (by simp [hx])).blk t e).2; omega
theorem ownD_rowP (hb : BoxW w b cs) (hF : OwnF w base (some ⟨g, 0, none⟩) nf cf (pre ++ [f] ++ post)) (hL : OwnL w base K nk ck ks) (hT : OwnT w base T nt ct ts) (k : Nat) (hk : pre.length = k) (f' : FileD) (hB : OwnBs w base (pre ++ [f'] ++ post)) :
    BoxW (((w.setCell ⟨g, k * 3, none⟩ (.int .i64 f'.id)).setCell ⟨g, k * 3 + 1, none⟩ (.slice f'.A f'.n f'.c)).setCell ⟨g, k * 3 + 2, none⟩ (.int .i64 f'.safe)) b cs ∧ OwnD (((w.setCell ⟨g, k * 3, none⟩ (.int .i64 f'.id)).setCell ⟨g, k * 3 + 1, none⟩ (.slice f'.A f'.n f'.c)).setCell ⟨g, k * 3 + 2, none⟩ (.int .i64 f'.safe)) base (some ⟨g, 0, none⟩) nf cf (pre ++ [f'] ++ post) K nk ck ks T nt ct ts := by
  have hgb : b ≠ g := fun e => box_ne_row hb hF (by decide) (by rw [e]; rfl)
  have hblk : ∀ x ∈ pre ++ [f'] ++ post, blkF x ≠ some g := fun x hx e => own_ne (hB.1 x hx) hF (by decide) g e rfl
  have hl := fun e => own_ne hL hF (by decide) g e rfl
  have ht := fun e => own_ne hT hF (by decide) g e rfl
  refine ⟨((hb.other hgb).other hgb).other hgb, ⟨?_, ((hB.cell_ hblk).cell_ hblk).cell_ hblk, own_setNe (own_setNe (own_setNe hL g _ _ hl) g _ _ hl) g _ _ hl, own_setNe (own_setNe (own_setNe hT g _ _ ht) g _ _ ht) g _ _ ht⟩⟩
  have h := hF
  unfold OwnF at h ⊢
  rw [List.map_append, List.map_append] at h ⊢
  exact row3 (z0 := .int .i64 f.id) (z1 := .slice f.A f.n f.c) (z2 := .int .i64 f.safe) (.int .i64 f'.id) (.slice f'.A f'.n f'.c) (.int .i64 f'.safe) (file_len _) k (by rw [List.length_map]; exact hk) h
end
end Go.Proofs.YtfkdfabbpebljaaGreat.DOk
namespace Go.Proofs.YtfkdfabbpebljaaGreat.DOk
open Go.RowKit Go.Proofs.YtfkdfabbpebljaaGreat.Bytes Go.Proofs.YtfkdfabbpebljaaGreat.Rows_ Go.Maps
set_option linter.unusedVariables false
section
variable {w W w1 w21 : World} {b base B0 y0 : Nat} {cs cy : Array Value} {g nf cf : Nat} {pre post : List FileD} {f : FileD} {K : Option Addr} {nk ck : Nat} {ks : List LinkD} {T : Option Addr} {nt ct : Nat} {ts : List TurnD}
/-- behind the store of the grown body into the file's variable -/
structure Grown2 (w : World) (B0 : Nat) (W2 : World) (p b base y0 : Nat) (cs cy : Array Value) (g nf cf : Nat) (pre post : List FileD) (f f' : FileD) (K : Option Addr) (nk ck : Nat) (ks : List LinkD) (T : Option Addr) (nt ct : Nat) (ts : List TurnD) : Prop where
  bf : BoxF W2 p #[.int .i64 f'.id, .slice f'.A f'.n f'.c, .int .i64 f'.safe]
  bn : BoxW W2 b cs
  of : OwnF W2 base (some ⟨g, 0, none⟩) nf cf (pre ++ [f] ++ post)
  ol : OwnL W2 base K nk ck ks
  ot : OwnT W2 base T nt ct ts
  ob : OwnBs W2 base (pre ++ [f'] ++ post)
  by_ : BoxW W2 y0 cy
  bl : Below B0 w W2
theorem grown2 {A' : Option Addr} {n' c' : Nat} {zs : List Int} (HN : BoxW W.drew b cs) (HO : OwnD W.drew base (some ⟨g, 0, none⟩) nf cf (pre ++ [f] ++ post) K nk ck ks T nt ct ts)
    (HOc : OwnD w21 base (some ⟨g, 0, none⟩) nf cf (pre ++ [f] ++ post) K nk ck ks T nt ct ts) (hW : w21.heap.size < W.heap.size)
    (HBF : BoxF W.drew w21.heap.size #[.int .i64 f.id, .slice f.A f.n f.c, .int .i64 f.safe]) (HY : BoxW W.drew y0 cy) (hb : b < w21.heap.size) (hy : y0 < w21.heap.size)
    (hB1 : Own w1 base A' n' c' zs) (hbw : Below base W.drew w1) (hgw : W.drew.grownBy w1 (Value.slice f.A f.n f.c).ownBlock) (hnew : ∀ i, (Value.slice A' n' c').ownBlock = some i → (Value.slice f.A f.n f.c).ownBlock = some i ∨ W.drew.heap.size ≤ i)
    (hBW : Below B0 w W) (hB0 : B0 ≤ base) (hB0p : B0 ≤ w21.heap.size) :
    Grown2 w B0 (w1.setCell ⟨w21.heap.size, 1, none⟩ (.slice A' n' c')) w21.heap.size b base y0 cs cy g nf cf pre post f ⟨f.id, A', n', c', f.safe, zs⟩ K nk ck ks T nt ct ts := by
  have hfm : f ∈ pre ++ [f] ++ post := by simp
  have on1 : Only (fun i => (Value.slice f.A f.n f.c).ownBlock = some i) W.drew w1 := Only.grown hgw fun i hi => hi
  have hlt : ∀ i, (Value.slice f.A f.n f.c).ownBlock = some i → i < w21.heap.size := fun i hi => ((HOc.b.1 f hfm).blk i hi).2
  have hNE : ¬ ((Value.slice f.A f.n f.c).ownBlock = some w21.heap.size) := fun e => by have := hlt _ e; omega
  have hNB : ∀ i, (Value.slice A' n' c').ownBlock = some i → i ≠ w21.heap.size := fun i hi e => (hnew i hi).elim (fun h => by have := hlt i h; omega) (fun h => by have h2 : W.heap.size ≤ i := h; omega)
  obtain ⟨gr1, gr2, gr3, gr4, gr5⟩ := ownD_grown HN HO hB1 hgw hnew
  have hgp : g < w21.heap.size := (World.ownsRow.lt HOc.f g rfl).2
  have hbf := HBF.only on1 hNE
  have hy1 := HY.only on1 (fun e => box_ne_row HY (HO.b.1 f hfm) (by decide) e)
  have hb3 : Below B0 w w1 := (hBW.drew).trans (hbw.mono hB0)
  refine ⟨hbf.set1 _, gr1.other (Nat.ne_of_lt hb), own_setNe gr2 _ _ _ (fun e => ?_), own_setNe gr3 _ _ _ (fun e => ?_), own_setNe gr4 _ _ _ (fun e => ?_), OwnBs.cell_ gr5 (bs_ne HOc.b hNB (Nat.le_refl _)), hy1.other (Nat.ne_of_lt hy), hb3.setCell hB0p _⟩
  · have e' : g = w21.heap.size := by injection e
    omega
  · have := (World.ownsRow.lt HOc.l _ e).2; omega
  · have := (World.ownsRow.lt HOc.t _ e).2; omega
structure Grown3 (w : World) (B0 : Nat) (V3 : World) (b base y0 : Nat) (cs cy : Array Value) (g nf cf : Nat) (gs : List FileD) (K : Option Addr) (nk ck : Nat) (ks : List LinkD) (T : Option Addr) (nt ct : Nat) (ts : List TurnD) : Prop where
  bn : BoxW V3 b cs
  od : OwnD V3 base (some ⟨g, 0, none⟩) nf cf gs K nk ck ks T nt ct ts
  by_ : BoxW V3 y0 cy
  bl : Below B0 w V3
theorem grown3 {W2 : World} {p : Nat} {f' : FileD} (h : Grown2 w B0 W2 p b base y0 cs cy g nf cf pre post f f' K nk ck ks T nt ct ts) (k : Nat) (hk : pre.length = k) (hgy : y0 ≠ g) (hB0g : B0 ≤ g) :
    Grown3 w B0 (((W2.setCell ⟨g, k * 3, none⟩ (.int .i64 f'.id)).setCell ⟨g, k * 3 + 1, none⟩ (.slice f'.A f'.n f'.c)).setCell ⟨g, k * 3 + 2, none⟩ (.int .i64 f'.safe)) b base y0 cs cy g nf cf (pre ++ [f'] ++ post) K nk ck ks T nt ct ts := by
  obtain ⟨h1, h2⟩ := ownD_rowP h.bn h.of h.ol h.ot k hk f' h.ob
  exact ⟨h1, h2, ((h.by_.other hgy).other hgy).other hgy, ((h.bl.setCell hB0g _).setCell hB0g _).setCell hB0g _⟩
end
end Go.Proofs.YtfkdfabbpebljaaGreat.DOk
