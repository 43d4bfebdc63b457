/- Words and lemmas, merged (once: InsI, ScEscI, ScEscJ, ScEscK) -/
import Derived.Test.YtfdbmhelcmifoaaGreatShelf
import Derived.Test.YtfdbmhelcmifoaaGreatKiA
import Derived.Test.YtfdbmhelcmifoaaGreatIntSC
import Derived.Laws.AppendOwn
import Derived.Laws.OwnMore
import Derived.Test.YtfdbmhelcmifoaaGreatScCopy
import Derived.Test.YtfdbmhelcmifoaaGreatKiS
import Derived.Test.YtfdbmhelcmifoaaGreatKiC
import Derived.Test.YtfdbmhelcmifoaaGreatScEscD
import Derived.Test.YtfdbmhelcmifoaaGreatKiRO
import Derived.IntWalk
import Derived.Deep.RegionHeld3
import Derived.Deep.RegionWith
import Derived.Deep.Cut
import Derived.Deep.CutRange
import Derived.Deep.DeepCutAuto
import Derived.Deep.DrawnRows
import Derived.Deep.Draws
import Derived.Test.YtfdbmhelcmifoaaGreatScNew
import Derived.Test.YtfdbmhelcmifoaaGreatScUD
namespace Go.Proofs.YtfdbmhelcmifoaaGreat.Sc
open Go.RowKit Go.Proofs.YtfdbmhelcmifoaaGreat.Bytes Go.Proofs.YtfdbmhelcmifoaaGreat.Rows_ Go.Proofs.YtfdbmhelcmifoaaGreat.RowK Go.Proofs.YtfdbmhelcmifoaaGreat.Gr Go.Proofs.YtfdbmhelcmifoaaGreat.DOk
set_option linter.unusedVariables false
theorem heap_setCells_ex (b : Nat) : ∀ (vs : List Value) (o : Nat) (w : World) (C : Array Value) (E : TypeId), w.heap[b]? = some (.cells C E (0, 0)) → ∃ D, (w.setCells b o vs).heap[b]? = some (.cells D E (0, 0)) ∧ D.size = C.size
  | [], o, w, C, E, h => ⟨C, h, rfl⟩
  | v :: r, o, w, C, E, h => by
    rw [World.setCells]
    obtain ⟨D, h1, h2⟩ := heap_setCells_ex b r (o + 1) _ _ E (heap_setCell_same w b o C E v h)
    exact ⟨D, h1, by rw [h2]; simp⟩
theorem only_setCells {S : Nat → Prop} {b : Nat} (hb : S b) : ∀ (vs : List Value) (o : Nat) (w : World), Only S w (w.setCells b o vs)
  | [], o, w => Only.refl S w
  | v :: r, o, w => (Only.cell_ w b o v hb).trans (only_setCells hb r (o + 1) _)
theorem only_undrew0 {S : Nat → Prop} {w w' : World} (h : Only S w.drew w') : Only S w w' := ⟨h.os, h.tape, h.output, h.size, h.block⟩
theorem ins_at {α : Type} (l : List α) (v : α) (i j : Nat) (hi : i ≤ l.length) : (l.take i ++ v :: l.drop i)[j]? = if j < i then l[j]? else if j = i then some v else l[j - 1]? := by
  have hl : (l.take i).length = i := by rw [List.length_take]; omega
  split
  · rename_i h
    rw [List.getElem?_append_left (by omega), List.getElem?_take, if_pos h]
  · rename_i h
    rw [List.getElem?_append_right (by omega), hl]
    split
    · rename_i h2; subst h2; simp
    · rename_i h2
      obtain ⟨k, hk⟩ : ∃ k, j = i + k + 1 := ⟨j - i - 1, by omega⟩
      subst hk
      rw [show i + k + 1 - i = k + 1 by omega, List.getElem?_cons_succ, List.getElem?_drop, show i + k + 1 - 1 = i + k by omega]
theorem cell_heap {w : World} {b : Nat} {C : Array Value} {E : TypeId} {fz : Nat × Nat} (h : w.heap[b]? = some (.cells C E fz)) (j : Nat) : w.cell? ⟨b, j, none⟩ = C[j]? := by simp [World.cell?, h]
theorem iv_ins (zs : List Int) (x : Int) (i : Nat) : iv (zs.take i ++ x :: zs.drop i) = (iv zs).take i ++ Value.int .i64 x :: (iv zs).drop i := by
  unfold iv; rw [List.map_append, List.map_cons, List.map_take, List.map_drop]
theorem take_of_cells {w : World} {b m : Nat} {D : Array Value} {E : TypeId} {xs : List Value} (hD : w.heap[b]? = some (.cells D E (0, 0))) (hl : xs.length = m) (hs : m ≤ D.size) (hc : ∀ j, j < m → w.cell? ⟨b, j, none⟩ = xs[j]?) : D.toList.take m = xs := by
  refine List.ext_getElem? fun j => ?_
  by_cases hj : j < m
  · rw [List.getElem?_take, if_pos hj, ← hc j hj]
    simp [World.cell?, hD]
  · rw [List.getElem?_eq_none (by simp; omega), List.getElem?_eq_none (by omega)]
theorem ownI_of {w : World} {base b m c : Nat} {D : Array Value} {zs : List Int} (hD : w.heap[b]? = some (.cells D 3 (0, 0))) (hb : base ≤ b) (hl : zs.length = m) (hmc : m ≤ c) (hcm : c ≤ maxLen) (hs : D.size = c) (hc : ∀ j, j < m → w.cell? ⟨b, j, none⟩ = (iv zs)[j]?) : OwnI w base (some ⟨b, 0, none⟩) m c zs :=
  ⟨by simp [iv, hl], .inr ⟨b, c, D, rfl, hb, hD, hmc, hcm, by omega, by rw [Nat.mul_one]; exact take_of_cells hD (by simp [iv, hl]) (by omega) hc⟩⟩
theorem ins_shift (b off n c i vb voff m vc : Nat) (cs vs : List Value) (w : World) (hi : i < n) (hm : 0 < m) (hroom : n + m ≤ c) (hc63 : c ≤ 9223372036854775807) (hvb : vb ≠ b)
    (hcl : cs.length = n) (hvl : vs.length = m)
    (hcs : ∀ j v, cs[j]? = some v → w.cell? ⟨b, off + j, none⟩ = some v) (hsp : ∀ j, j < n + m → (w.cell? ⟨b, off + j, none⟩).isSome = true) (hfz : ∀ j, j < n + m → w.frozen? ⟨b, off + j, none⟩ = false)
    (hvs : ∀ j v, vs[j]? = some v → w.cell? ⟨vb, voff + j, none⟩ = some v) (h1c : ∀ v ∈ cs, v.oneCell' = true) (h1v : ∀ v ∈ vs, v.oneCell' = true)
    (tA tB : TypeId) (kA kB : Nat) (hsa : w.shape? vb = some (tA, kA)) (hsb : w.shape? b = some (tB, kB)) (hkB : kB ≠ 0) (hfa : w.frozen? ⟨vb, voff, none⟩ = false) (hfe : w.frozen? ⟨vb, kA, none⟩ = false) :
    Calls Tryz.prog 153 #[.slice (some ⟨b, off, none⟩) n c, .int .i64 i, .slice (some ⟨vb, voff, none⟩) m vc] w fun e w' =>
      e = .returned (.slice (some ⟨b, off, none⟩) (n + m) c) ∧ w' = (w.drew.setCells b (off + (i + m)) (cs.drop i)).setCells b (off + i) vs :=
  Any2.slices_Insert_int_shift Tryz.ins b off n c i vb voff m vc cs vs w hi hm hroom hc63 hvb hcl hvl hcs hsp hfz hvs h1c h1v tA tB kA kB hsa hsb hkB hfa hfe
theorem ins_end_room (b off n c vb voff m vc : Nat) (vs : List Value) (w : World) (hm : 0 < m) (hroom : n + m ≤ c) (hc63 : c ≤ 9223372036854775807)
    (hvl : vs.length = m) (hsp : ∀ j, j < m → (w.cell? ⟨b, off + n + j, none⟩).isSome = true) (hfz : ∀ j, j < m → w.frozen? ⟨b, off + n + j, none⟩ = false)
    (hvs : ∀ j v, vs[j]? = some v → w.cell? ⟨vb, voff + j, none⟩ = some v) (h1v : ∀ v ∈ vs, v.oneCell' = true) :
    Calls Tryz.prog 153 #[.slice (some ⟨b, off, none⟩) n c, .int .i64 n, .slice (some ⟨vb, voff, none⟩) m vc] w fun e w' =>
      e = .returned (.slice (some ⟨b, off, none⟩) (n + m) c) ∧ w' = w.setCells b (off + n) vs :=
  Any2.slices_Insert_int_end_room Tryz.ins b off n c vb voff m vc vs w hm hroom hc63 hvl hsp hfz hvs h1v
theorem ins_end_grow (base : Option Addr) (n c vb voff m vc : Nat) (cs vs : List Value) (w : World) (hm : 0 < m) (hnc : n ≤ c) (hroom : c < n + m) (hbig : (n + m) * 8 ≤ 140737488355328)
    (hcl : cs.length = n) (hvl : vs.length = m) (hnil : base = none → n = 0)
    (hcs : ∀ a, base = some a → ∀ j v, cs[j]? = some v → w.cell? (a.add j) = some v)
    (hvs : ∀ j v, vs[j]? = some v → w.cell? ⟨vb, voff + j, none⟩ = some v) (h1v : ∀ v ∈ vs, v.oneCell' = true) :
    Calls Tryz.prog 153 #[.slice base n c, .int .i64 n, .slice (some ⟨vb, voff, none⟩) m vc] w fun e w' =>
      e = .returned (.slice (some ⟨w.heap.size, 0, none⟩) (n + m) (grownCap w (n + m) c 3)) ∧
      w' = w.drew.alloc (.cells ((cs ++ vs).toArray ++ Builtin.zeroCells (Value.int .i64 0).cells (grownCap w (n + m) c 3 - (n + m))) 3) :=
  Any2.slices_Insert_int_end_grow Tryz.ins base n c vb voff m vc cs vs w hm hnc hroom hbig hcl hvl hnil hcs hvs h1v
theorem ins_grow (b off n c i vb voff m vc : Nat) (cs vs : List Value) (w : World) (hi : i < n) (hm : 0 < m) (hnc : n ≤ c) (hroom : c < n + m) (hbig : (n + m) * 8 ≤ 140737488355328)
    (hcl : cs.length = n) (hvl : vs.length = m)
    (hcs : ∀ j v, cs[j]? = some v → w.cell? ⟨b, off + j, none⟩ = some v)
    (hvs : ∀ j v, vs[j]? = some v → w.cell? ⟨vb, voff + j, none⟩ = some v) (h1c : ∀ v ∈ cs, v.oneCell' = true) (h1v : ∀ v ∈ vs, v.oneCell' = true) :
    Calls Tryz.prog 153 #[.slice (some ⟨b, off, none⟩) n c, .int .i64 i, .slice (some ⟨vb, voff, none⟩) m vc] w fun e w' =>
      e = .returned (.slice (some ⟨w.heap.size, 0, none⟩) (n + m) (grownCap w (n + m) c 3)) ∧
      w' = (((w.alloc (.cells ((cs.take i).toArray ++ Builtin.zeroCells (Value.int .i64 0).cells (n + m - i) ++ Builtin.zeroCells (Value.int .i64 0).cells (grownCap w (n + m) c 3 - (n + m))) 3)).drew.setCells w.heap.size i vs).drew).setCells w.heap.size (i + m) (cs.drop i) :=
  Any2.slices_Insert_int_grow Tryz.ins b off n c i vb voff m vc cs vs w hi hm hnc hroom hbig hcl hvl hcs hvs h1c h1v
set_option maxRecDepth 100000 in
theorem insertI_any {base : Nat} (A : Option Addr) (n c : Nat) (zs : List Int) (i : Nat) (x : Int) (vb : Nat) (w : World) (ho : OwnI w base A n c zs) (hi : i ≤ n) (hn : n ≤ 1000000) (hbase : base ≤ w.heap.size)
    (hv : w.heap[vb]? = some (.cells #[.int .i64 x] 3 (0, 0))) (hne : ∀ g, (Value.slice A n c).ownBlock = some g → vb ≠ g) :
    Calls Tryz.prog 153 #[.slice A n c, .int .i64 (i : Nat), .slice (some ⟨vb, 0, none⟩) 1 1] w fun e w' => ∃ A' c', e = .returned (.slice A' (n + 1) c') ∧ OwnI w' base A' (n + 1) c' (zs.take i ++ x :: zs.drop i) ∧ Only (fun g => (Value.slice A n c).ownBlock = some g) w w' ∧ (∀ g, (Value.slice A' (n + 1) c').ownBlock = some g → (Value.slice A n c).ownBlock = some g ∨ w.heap.size ≤ g) := by
  have hlen : zs.length = n := by have := ho.1; simpa [iv] using this
  have hvl : vb < w.heap.size := (Array.getElem?_eq_some_iff.1 hv).1
  have hvs : ∀ j v, ([Value.int .i64 x] : List Value)[j]? = some v → w.cell? ⟨vb, 0 + j, none⟩ = some v := by
    intro j v hj
    cases j with
    | zero => simp at hj; subst hj; simp [World.cell?, hv]
    | succ j => simp at hj
  have h1v : ∀ v ∈ [Value.int .i64 x], v.oneCell' = true := by intro v h; simp at h; subst h; rfl
  have h1c : ∀ v ∈ iv zs, v.oneCell' = true := by intro v h; unfold iv at h; obtain ⟨z, _, rfl⟩ := List.mem_map.1 h; rfl
  have hil : (iv zs).length = n := by simp [iv, hlen]
  have hnl : (zs.take i ++ x :: zs.drop i).length = n + 1 := by simp; omega
  have hml : (n + 1 : Nat) ≤ maxLen := by unfold maxLen; omega
  have hgr : ∀ G : Nat, ∀ xs : List Value, xs.length = n + 1 → n + 1 ≤ G → ((xs).toArray ++ Builtin.zeroCells (Value.int .i64 0).cells (G - (n + 1))).size = G := by
    intro G xs h1 h2
    simp [Builtin.zeroCells, Value.cells, h1]; omega
  rcases ho.2 with ⟨hv0, h0⟩ | ⟨g, cap, cur, hv0, hb, hg, hnc, hm, hs, ht⟩
  · injection hv0 with e1 e2 e3
    subst e1 h0 e3
    obtain rfl : i = 0 := by omega
    obtain rfl : zs = [] := List.eq_nil_of_length_eq_zero hlen
    have h := ins_end_grow none 0 0 vb 0 1 1 [] [.int .i64 x] w (by omega) (by omega) (by omega) (by omega) rfl rfl (fun _ => rfl) (fun a h => by cases h) hvs h1v
    refine h.mono ?_
    rintro e w' ⟨rfl, rfl⟩
    have hge := grownCap_ge w (0 + 1) 0 3
    have hle := grownCap_le_maxLen w (0 + 1) 0 3 (by unfold maxLen; omega)
    refine ⟨_, _, rfl, ?_, ?_, fun g hg => ?_⟩
    · refine ownI_of (heap_alloc_new w.drew _) hbase rfl hge hle (hgr _ _ rfl hge) fun j hj => ?_
      obtain rfl : j = 0 := by omega
      refine (cell_heap (heap_alloc_new w.drew _) 0).trans ?_
      rw [Array.getElem?_append_left (by simp)]
      simp [iv]
    · exact Only.below ((Below.refl w.heap.size w).drew.alloc (Nat.le_refl _) _) (Nat.le_refl _)
    · simp [Value.ownBlock] at hg; exact .inr (by omega)
  · injection hv0 with e1 e2 e3
    subst e1 e3
    have hcs : ∀ j v, (iv zs)[j]? = some v → w.cell? ⟨g, 0 + j, none⟩ = some v := by
      intro j v hj
      have hj' : j < n * 1 := by have := (List.getElem?_eq_some_iff.1 hj).1; omega
      rw [Nat.zero_add, World.ownsRow.cellAt (h := ho) j hj', hj]
    have hgl : g < w.heap.size := (Array.getElem?_eq_some_iff.1 hg).1
    have hsz : cur.size = c := by omega
    have hsp : ∀ j, j < c → (w.cell? ⟨g, j, none⟩).isSome = true := by
      intro j hj; simp [World.cell?, hg, hsz, hj]
    have hfz : ∀ j, w.frozen? ⟨g, j, none⟩ = false := by intro j; simp [World.frozen?, hg]
    by_cases hroom : n + 1 ≤ c
    · by_cases hin : i < n
      · have h := ins_shift g 0 n c i vb 0 1 1 (iv zs) [.int .i64 x] w hin (by omega) hroom (by unfold maxLen at hm; omega) (hne g rfl) hil rfl hcs (fun j hj => by rw [Nat.zero_add]; exact hsp j (by omega)) (fun j _ => hfz _) hvs h1c h1v
          3 3 1 c (by simp [World.shape?, hv]) (by simp [World.shape?, hg, hsz]) (by omega) (by simp [World.frozen?, hv]) (by simp [World.frozen?, hv])
        refine h.mono ?_
        rintro e w' ⟨rfl, rfl⟩
        simp only [Nat.zero_add]
        obtain ⟨D1, hD1, hs1⟩ := heap_setCells_ex g ((iv zs).drop i) (i + 1) w.drew cur 3 hg
        obtain ⟨D2, hD2, hs2⟩ := heap_setCells_ex g [Value.int .i64 x] i _ D1 3 hD1
        refine ⟨_, _, rfl, ?_, (only_undrew0 (only_setCells (S := fun k => (Value.slice (some ⟨g, 0, none⟩) n c).ownBlock = some k) (b := g) rfl _ _ _)).trans (only_setCells (S := fun k => (Value.slice (some ⟨g, 0, none⟩) n c).ownBlock = some k) (b := g) rfl _ _ _), fun k hk => .inl hk⟩
        refine ownI_of hD2 hb hnl hroom hm (by omega) fun j hj => ?_
        rw [iv_ins, ins_at _ _ _ _ (by omega)]
        have hin1 : ∀ q, q < ((iv zs).drop i).length → ((w.drew).cell? ⟨g, (i + 1) + q, none⟩).isSome = true := fun q hq => by
          rw [List.length_drop] at hq; exact hsp _ (by omega)
        have hsome2 : ∀ q, q < ([Value.int .i64 x] : List Value).length → ((w.drew.setCells g (i + 1) ((iv zs).drop i)).cell? ⟨g, i + q, none⟩).isSome = true := fun q hq => by
          simp [World.cell?, hD1]; simp at hq; omega
        split
        · rename_i hji
          rw [World.cell?_setCells_out g _ _ _ _ (fun _ _ => .inl hji), World.cell?_setCells_out g _ _ _ _ (fun _ _ => .inl (by show j < i + 1; omega))]
          have := World.ownsRow.cellAt (h := ho) j (by omega)
          exact this
        · rename_i hji
          split
          · rename_i hje
            subst hje
            have := World.cell?_setCells_in g [Value.int .i64 x] j _ hsome2 0 (by simp)
            simpa using this
          · rename_i hje
            rw [World.cell?_setCells_out g _ _ _ _ (fun _ _ => .inr (by show i + 1 ≤ j; omega))]
            have hql : j - (i + 1) < ((iv zs).drop i).length := by rw [List.length_drop]; omega
            have := World.cell?_setCells_in g ((iv zs).drop i) (i + 1) w.drew hin1 (j - (i + 1)) hql
            rw [show i + 1 + (j - (i + 1)) = j by omega] at this
            rw [this, List.getElem_drop, List.getElem?_eq_getElem (by omega)]
            congr 2; omega
      · obtain rfl : i = n := by omega
        have h := ins_end_room g 0 i c vb 0 1 1 [.int .i64 x] w (by omega) hroom (by unfold maxLen at hm; omega) rfl (fun j hj => by rw [Nat.zero_add]; exact hsp _ (by omega)) (fun j _ => hfz _) hvs h1v
        refine h.mono ?_
        rintro e w' ⟨rfl, rfl⟩
        simp only [Nat.zero_add]
        obtain ⟨D2, hD2, hs2⟩ := heap_setCells_ex g [Value.int .i64 x] i w cur 3 hg
        refine ⟨_, _, rfl, ?_, only_setCells (S := fun k => (Value.slice (some ⟨g, 0, none⟩) i c).ownBlock = some k) (b := g) rfl _ _ _, fun k hk => .inl hk⟩
        refine ownI_of hD2 hb hnl hroom hm (by omega) fun j hj => ?_
        rw [iv_ins, ins_at _ _ _ _ (by omega)]
        split
        · rename_i hji
          rw [World.cell?_setCells_out g _ _ _ _ (fun _ _ => .inl hji)]
          exact World.ownsRow.cellAt (h := ho) j (by omega)
        · rename_i hji
          obtain rfl : j = i := by omega
          rw [if_pos rfl]
          have := World.cell?_setCells_in g [Value.int .i64 x] j w (fun q hq => by simp at hq; subst hq; exact hsp _ (by omega)) 0 (by simp)
          simpa using this
    · have hge := grownCap_ge w (n + 1) c 3
      have hle := grownCap_le_maxLen w (n + 1) c 3 (by unfold maxLen; omega)
      by_cases hin : i < n
      · have h := ins_grow g 0 n c i vb 0 1 1 (iv zs) [.int .i64 x] w hin (by omega) hnc (by omega) (by omega) hil rfl hcs hvs h1c h1v
        refine h.mono ?_
        obtain ⟨G, hG⟩ : ∃ G, G = grownCap w (n + 1) c 3 := ⟨_, rfl⟩
        rw [← hG] at hge hle ⊢
        obtain ⟨ROW, hROW⟩ : ∃ ROW : Array Value, ROW = (((iv zs).take i).toArray ++ Builtin.zeroCells (Value.int .i64 0).cells (n + 1 - i) ++ Builtin.zeroCells (Value.int .i64 0).cells (G - (n + 1))) := ⟨_, rfl⟩
        have hRS : ROW.size = G := by rw [hROW]; simp [Builtin.zeroCells, Value.cells, iv, hlen]; omega
        have hRt : ∀ j, j < i → ROW[j]? = (iv zs)[j]? := fun j hj => by
          rw [hROW, Array.append_assoc, Array.getElem?_append_left (by simp [iv, hlen]; omega)]
          simp [hj]
        rw [← hROW]
        rintro e w' ⟨rfl, rfl⟩
        have hN : (w.alloc (.cells ROW 3)).drew.heap[w.heap.size]? = some (.cells ROW 3 (0, 0)) := heap_alloc_new w _
        obtain ⟨D1, hD1, hs1⟩ := heap_setCells_ex w.heap.size [Value.int .i64 x] i _ ROW 3 hN
        have hD1' : ((w.alloc (.cells ROW 3)).drew.setCells w.heap.size i [Value.int .i64 x]).drew.heap[w.heap.size]? = some (.cells D1 3 (0, 0)) := hD1
        obtain ⟨D2, hD2, hs2⟩ := heap_setCells_ex w.heap.size ((iv zs).drop i) (i + 1) _ D1 3 hD1'
        have hne0 : w.heap.size ≠ g := by omega
        refine ⟨_, _, rfl, ?_, ?_, fun k hk => ?_⟩
        · refine ownI_of hD2 hbase hnl hge hle (by omega) fun j hj => ?_
          rw [iv_ins, ins_at _ _ _ _ (by omega)]
          have hin1 : ∀ q, q < ((iv zs).drop i).length → (((w.alloc (.cells ROW 3)).drew.setCells w.heap.size i [Value.int .i64 x]).drew.cell? ⟨w.heap.size, (i + 1) + q, none⟩).isSome = true := fun q hq => by
            rw [List.length_drop] at hq
            simp [World.cell?, hD1']; omega
          split
          · rename_i hji
            rw [World.cell?_setCells_out _ _ _ _ _ (fun _ _ => .inl (by show j < i + 1; omega))]
            show World.cell? ((w.alloc (.cells ROW 3)).drew.setCells w.heap.size i [Value.int .i64 x]) _ = _
            rw [World.cell?_setCells_out _ _ _ _ _ (fun _ _ => .inl hji), ← hRt j hji]
            exact cell_heap hN j
          · rename_i hji
            split
            · rename_i hje
              subst hje
              rw [World.cell?_setCells_out _ _ _ _ _ (fun _ _ => .inl (by show j < j + 1; omega))]
              have := World.cell?_setCells_in w.heap.size [Value.int .i64 x] j (w.alloc (.cells ROW 3)).drew (fun q hq => by simp at hq; subst hq; rw [cell_heap hN]; simp [hRS]; omega) 0 (by simp)
              simpa using this
            · rename_i hje
              have hql : j - (i + 1) < ((iv zs).drop i).length := by rw [List.length_drop]; omega
              have := World.cell?_setCells_in w.heap.size ((iv zs).drop i) (i + 1) _ hin1 (j - (i + 1)) hql
              rw [show i + 1 + (j - (i + 1)) = j by omega] at this
              rw [this, List.getElem_drop, List.getElem?_eq_getElem (by omega)]
              congr 2; omega
        · have h1 : Only (fun k => (Value.slice (some ⟨g, 0, none⟩) n c).ownBlock = some k ∨ k = w.heap.size) w (((w.alloc (.cells ROW 3)).drew.setCells w.heap.size i [Value.int .i64 x]).drew.setCells w.heap.size (i + 1) ((iv zs).drop i)) :=
            ((Only.below ((Below.refl w.heap.size w).alloc (Nat.le_refl _) _) (Nat.le_refl _)).trans (only_undrew0 (only_setCells (.inr rfl) _ _ _))).trans (only_undrew0 (only_setCells (.inr rfl) _ _ _))
          exact ⟨h1.os, h1.tape, h1.output, h1.size, fun k hk hs => h1.block k hk (fun h => h.elim hs (fun e => by omega))⟩
        · simp [Value.ownBlock] at hk; exact .inr (by omega)
      · obtain rfl : i = n := by omega
        have h := ins_end_grow (some ⟨g, 0, none⟩) i c vb 0 1 1 (iv zs) [.int .i64 x] w (by omega) hnc (by omega) (by omega) hil rfl (fun h => by cases h) (fun a ha j v hj => by injection ha with ha; subst ha; rw [Addr.add_lit]; exact hcs j v hj) hvs h1v
        refine h.mono ?_
        rintro e w' ⟨rfl, rfl⟩
        have hN := heap_alloc_new w.drew (.cells ((iv zs ++ [Value.int .i64 x]).toArray ++ Builtin.zeroCells (Value.int .i64 0).cells (grownCap w (i + 1) c 3 - (i + 1))) 3)
        refine ⟨_, _, rfl, ?_, Only.below ((Below.refl w.heap.size w).drew.alloc (Nat.le_refl _) _) (Nat.le_refl _), fun k hk => ?_⟩
        · refine ownI_of hN hbase hnl hge hle (hgr _ _ (by simp [hil]) hge) fun j hj => ?_
          rw [iv_ins, List.take_of_length_le (by omega), List.drop_eq_nil_of_le (by omega)]
          refine (cell_heap hN j).trans ?_
          rw [Array.getElem?_append_left (by simp [hil]; omega)]
          simp
        · simp [Value.ownBlock] at hk; exact .inr (by omega)
end Go.Proofs.YtfdbmhelcmifoaaGreat.Sc
namespace Go.Proofs.YtfdbmhelcmifoaaGreat.Sc
open Go.RowKit Go.Proofs.YtfdbmhelcmifoaaGreat.Bytes Go.Proofs.YtfdbmhelcmifoaaGreat.Rows_ Go.Proofs.YtfdbmhelcmifoaaGreat.RowK Go.Proofs.YtfdbmhelcmifoaaGreat.Gr Go.Proofs.YtfdbmhelcmifoaaGreat.DOk Go.Proofs.YtfdbmhelcmifoaaGreat.Opq Go.Proofs.YtfdbmhelcmifoaaGreat.Attr
set_option linter.unusedVariables false
attribute [local go_sem ↓] Sc.exec_storeS Sc.exec_loadS
attribute [local go_sem] blkOf_ptr isHead_ptr aggN_agg setRow_alloc rowZ_at rowZ_past scrA_size nsA_size one_scr rowOf_alloc_at rowOf_alloc_past rowOf_drew ns_pre
attribute [local go_sem] sa_w sa_h sa_mw sa_mh sa_M sa_aw sa_ah sa_A sa_onAlt sa_x sa_y sa_wrap sa_fg sa_bg sa_b sa_u sa_t sa_top sa_bot sa_noWrap sa_hide sa_sx sa_sy sa_sfg sa_sbg sa_sb sa_su sa_st sa_tabs sa_lim sa_rows
attribute [local go_sem] ns_w ns_h ns_mw ns_mh ns_M ns_aw ns_ah ns_A ns_onAlt ns_x ns_y ns_wrap ns_fg ns_bg ns_b ns_u ns_t ns_top ns_bot ns_noWrap ns_hide ns_sx ns_sy ns_sfg ns_sbg ns_sb ns_su ns_st ns_tabs ns_lim ns_rows
attribute [local go_sem] ns_at0 ns_at1 ns_at2 ns_at3 ns_at4 ns_at5 ns_at6 ns_at7 ns_at8 ns_at9 ns_at10 ns_at11 ns_at12 ns_at13 ns_at14 ns_at15 ns_at16 ns_at17 ns_at18 ns_at19 ns_at20 ns_at21 ns_at22 ns_at23 ns_at24 ns_at25 ns_at26 ns_at27 ns_at28 ns_at29 ns_at30 ns_at31 ns_at32 ns_at33 ns_at34 ns_at35 ns_at36 ns_at37
attribute [local go_sem] scr_at0 scr_at1 scr_at2 scr_at3 scr_at4 scr_at5 scr_at6 scr_at7 scr_at8 scr_at9 scr_at10 scr_at11 scr_at12 scr_at13 scr_at14 scr_at15 scr_at16 scr_at17 scr_at18 scr_at19 scr_at20 scr_at21 scr_at22 scr_at23 scr_at24 scr_at25 scr_at26 scr_at27 scr_at28 scr_at29 scr_at30
def savS (t : ScrS) : ScrS := { t with sx := t.x, sy := t.y, sfg := t.fg, sbg := t.bg, sb := t.b, su := t.u, st := t.t }
def bacS (t : ScrS) : ScrS := { t with x := clampD t.sx (t.w - 1), y := clampD t.sy (t.h - 1), wrap := false, fg := t.sfg, bg := t.sbg, b := t.sb, u := t.su, t := t.st }
theorem cell_keep {w : World} {g i j : Nat} {v u : Value} (h : w.cell? ⟨g, j, none⟩ = some u) (hne : i ≠ j) : (w.setCell ⟨g, i, none⟩ v).cell? ⟨g, j, none⟩ = some u := by rw [World.cell?_setCell_other _ _ _ _ (by intro e; injection e with e1 e2; exact hne e2)]; exact h
theorem cell_keepD {w : World} {a : Addr} {u : Value} (h : w.cell? a = some u) : w.drew.cell? a = some u := h
theorem only_drew_ {S : Nat → Prop} {w w' : World} (h : Only S w w') : Only S w w'.drew := ⟨h.os, h.tape, h.output, h.size, h.block⟩
theorem savS_row {w : World} {g : Nat} {t : ScrS} (h : RowN w g t) : RowN (((((((w.setCell ⟨g, 21, none⟩ (.int .i64 t.x)).setCell ⟨g, 22, none⟩ (.int .i64 t.y)).setCell ⟨g, 23, none⟩ (.int .i64 t.fg)).setCell ⟨g, 24, none⟩ (.int .i64 t.bg)).setCell ⟨g, 25, none⟩ (.bool t.b)).setCell ⟨g, 26, none⟩ (.bool t.u)).setCell ⟨g, 27, none⟩ (.bool t.t)) g (savS t) :=
  RowN.s_st (z := t.t) (RowN.s_su (z := t.u) (RowN.s_sb (z := t.b) (RowN.s_sbg (z := t.bg) (RowN.s_sfg (z := t.fg) (RowN.s_sy (z := t.y) (RowN.s_sx (z := t.x) h))))))
theorem savS_only (w : World) (g : Nat) (t : ScrS) : Only (fun i => i = g) w (((((((w.setCell ⟨g, 21, none⟩ (.int .i64 t.x)).setCell ⟨g, 22, none⟩ (.int .i64 t.y)).setCell ⟨g, 23, none⟩ (.int .i64 t.fg)).setCell ⟨g, 24, none⟩ (.int .i64 t.bg)).setCell ⟨g, 25, none⟩ (.bool t.b)).setCell ⟨g, 26, none⟩ (.bool t.u)).setCell ⟨g, 27, none⟩ (.bool t.t)) :=
  ((((((Only.cell_ (S := fun i => i = g) w g 21 (.int .i64 t.x) rfl).trans (Only.cell_ _ g 22 (.int .i64 t.y) rfl)).trans (Only.cell_ _ g 23 (.int .i64 t.fg) rfl)).trans (Only.cell_ _ g 24 (.int .i64 t.bg) rfl)).trans (Only.cell_ _ g 25 (.bool t.b) rfl)).trans (Only.cell_ _ g 26 (.bool t.u) rfl)).trans (Only.cell_ _ g 27 (.bool t.t) rfl)
theorem clampD_in {x m : Int} (h0 : 0 ≤ x) (h1 : x ≤ m) : clampD x m = x := by unfold clampD clampV; rw [if_neg (by omega), if_neg (by omega)]
theorem bacS_data {t : ScrS} (h : okD t.data = true) : (bacS t).data = backD t.data := by
  obtain ⟨_, ⟨_, _, _, _, _, s1, s2, s3, s4, _, _⟩, _⟩ := okD_iff.1 h
  have s1' : 0 ≤ t.sx := s1
  have s2' : t.sx < t.w := s2
  have s3' : 0 ≤ t.sy := s3
  have s4' : t.sy < t.h := s4
  have e1 : clampD t.sx (t.w - 1) = t.sx := clampD_in s1' (by omega)
  have e2 : clampD t.sy (t.h - 1) = t.sy := clampD_in s3' (by omega)
  unfold bacS
  rw [e1, e2]; rfl
set_option maxRecDepth 100000 in
set_option maxHeartbeats 3200000 in
theorem saveCursor_any (t : ScrS) (g : Nat) (w : World) (hg : RowN w g t) :
    Calls Tryz.prog 115 #[.pointer (some ⟨g, 0, none⟩)] w fun e w' => e = .returned (.tuple #[]) ∧ RowN w' g (savS t) ∧ Only (fun i => i = g) w w' := by
  have HG := Lib.hid hg
  have k9 : w.cell? ⟨g, 9, none⟩ = some (.int .i64 t.x) := hg.cell 9
  have k10 : w.cell? ⟨g, 10, none⟩ = some (.int .i64 t.y) := hg.cell 10
  have k12 : w.cell? ⟨g, 12, none⟩ = some (.int .i64 t.fg) := hg.cell 12
  have k13 : w.cell? ⟨g, 13, none⟩ = some (.int .i64 t.bg) := hg.cell 13
  have k14 : w.cell? ⟨g, 14, none⟩ = some (.bool t.b) := hg.cell 14
  have k15 : w.cell? ⟨g, 15, none⟩ = some (.bool t.u) := hg.cell 15
  have k16 : w.cell? ⟨g, 16, none⟩ = some (.bool t.t) := hg.cell 16
  have k21 : w.cell? ⟨g, 21, none⟩ = some (.int .i64 t.sx) := hg.cell 21
  have k22 : w.cell? ⟨g, 22, none⟩ = some (.int .i64 t.sy) := hg.cell 22
  have k23 : w.cell? ⟨g, 23, none⟩ = some (.int .i64 t.sfg) := hg.cell 23
  have k24 : w.cell? ⟨g, 24, none⟩ = some (.int .i64 t.sbg) := hg.cell 24
  have k25 : w.cell? ⟨g, 25, none⟩ = some (.bool t.sb) := hg.cell 25
  have k26 : w.cell? ⟨g, 26, none⟩ = some (.bool t.su) := hg.cell 26
  have k27 : w.cell? ⟨g, 27, none⟩ = some (.bool t.st) := hg.cell 27
  have hf := hg.free
  clear hg
  go_enter Tryz.func115, Tryz.ntmps115
  go_upto_region 0 with fail
  go_region_held3 (fun w' => w'.cell? ⟨g, 9, none⟩ = some (.int .i64 t.x) ∧ w'.cell? ⟨g, 10, none⟩ = some (.int .i64 t.y) ∧ w'.cell? ⟨g, 12, none⟩ = some (.int .i64 t.fg) ∧ w'.cell? ⟨g, 13, none⟩ = some (.int .i64 t.bg) ∧ w'.cell? ⟨g, 14, none⟩ = some (.bool t.b) ∧ w'.cell? ⟨g, 15, none⟩ = some (.bool t.u) ∧ w'.cell? ⟨g, 16, none⟩ = some (.bool t.t)) (first | (refine ⟨?_, ?_, ?_, ?_, ?_, ?_, ?_⟩ <;> (repeat' first | (with_reducible assumption) | (with_reducible refine cell_keepD ?_) | (with_reducible refine cell_keep ?_ ?_) | decide))) (fail)
  have H1 := Lib.hid (RowN.drew (savS_row HG.out))
  have ON := Lib.hid (only_drew_ (savS_only w g t))
  clear k9 k10 k12 k13 k14 k15 k16 k21 k22 k23 k24 k25 k26 k27 hf
  go_wp2_with fail
  go_end0
  exact ⟨rfl, H1.out, ON.out⟩
set_option maxRecDepth 100000 in
set_option maxHeartbeats 3200000 in
theorem restoreCursor_any (t : ScrS) (g : Nat) (w : World) (hg : RowN w g t) (w1 : 1 ≤ t.w) (w2 : t.w ≤ 120) (h1 : 1 ≤ t.h) (h2 : t.h ≤ 120) :
    Calls Tryz.prog 116 #[.pointer (some ⟨g, 0, none⟩)] w fun e w' => e = .returned (.tuple #[]) ∧ RowN w' g (bacS t) ∧ Only (fun i => i = g) w w' := by
  have HN := Lib.hid hg
  have k21 : w.cell? ⟨g, 21, none⟩ = some (.int .i64 t.sx) := hg.cell 21
  have k22 : w.cell? ⟨g, 22, none⟩ = some (.int .i64 t.sy) := hg.cell 22
  have HM := Lib.hid (fun V (h : RowN V g t) => moveTo_any t g t.sx t.sy V h w1 w2 h1 h2)
  clear hg w1 w2 h1 h2
  go_enter Tryz.func116, Tryz.ntmps116
  go_upto_region 0 with fail
  go_region_law (first
    | (go_simp; go_at_call 145; (with_reducible refine (HM.out _ HN.out.drew).mono ?_); rintro e v ⟨rfl, hR, hon⟩; have HR := Lib.hid hR; have HON := Lib.hid (only_undrew hon); clear hR hon))
  all_goals
    have k23 : v.cell? ⟨g, 23, none⟩ = some (.int .i64 t.sfg) := HR.out.cell 23
    have k24 : v.cell? ⟨g, 24, none⟩ = some (.int .i64 t.sbg) := HR.out.cell 24
    have k25 : v.cell? ⟨g, 25, none⟩ = some (.bool t.sb) := HR.out.cell 25
    have k26 : v.cell? ⟨g, 26, none⟩ = some (.bool t.su) := HR.out.cell 26
    have k27 : v.cell? ⟨g, 27, none⟩ = some (.bool t.st) := HR.out.cell 27
    have k12 : v.cell? ⟨g, 12, none⟩ = some (.int .i64 t.fg) := HR.out.cell 12
    have k13 : v.cell? ⟨g, 13, none⟩ = some (.int .i64 t.bg) := HR.out.cell 13
    have k14 : v.cell? ⟨g, 14, none⟩ = some (.bool t.b) := HR.out.cell 14
    have k15 : v.cell? ⟨g, 15, none⟩ = some (.bool t.u) := HR.out.cell 15
    have k16 : v.cell? ⟨g, 16, none⟩ = some (.bool t.t) := HR.out.cell 16
    have hf := HR.out.free
    go_wp2_with fail
    go_end0
    refine ⟨rfl, ?_, ?_⟩
    · exact RowN.s_t (z := t.st) (RowN.s_u (z := t.su) (RowN.s_b (z := t.sb) (RowN.s_bg (z := t.sbg) (RowN.s_fg (z := t.sfg) HR.out))))
    · exact ((((HON.out.trans (Only.cell_ _ g 12 _ rfl)).trans (Only.cell_ _ g 13 _ rfl)).trans (Only.cell_ _ g 14 _ rfl)).trans (Only.cell_ _ g 15 _ rfl)).trans (Only.cell_ _ g 16 _ rfl)
end Go.Proofs.YtfdbmhelcmifoaaGreat.Sc
namespace Go.Proofs.YtfdbmhelcmifoaaGreat.Sc
open Go.RowKit Go.Proofs.YtfdbmhelcmifoaaGreat.Bytes Go.Proofs.YtfdbmhelcmifoaaGreat.Rows_ Go.Proofs.YtfdbmhelcmifoaaGreat.RowK Go.Proofs.YtfdbmhelcmifoaaGreat.Gr Go.Proofs.YtfdbmhelcmifoaaGreat.DOk Go.Proofs.YtfdbmhelcmifoaaGreat.Opq Go.Proofs.YtfdbmhelcmifoaaGreat.Attr
set_option linter.unusedVariables false
attribute [local go_sem ↓] Sc.exec_storeS Sc.exec_loadS
attribute [local go_sem] blkOf_ptr isHead_ptr aggN_agg setRow_alloc rowZ_at rowZ_past scrA_size nsA_size one_scr rowOf_alloc_at rowOf_alloc_past rowOf_drew ns_pre
attribute [local go_sem] sa_w sa_h sa_mw sa_mh sa_M sa_aw sa_ah sa_A sa_onAlt sa_x sa_y sa_wrap sa_fg sa_bg sa_b sa_u sa_t sa_top sa_bot sa_noWrap sa_hide sa_sx sa_sy sa_sfg sa_sbg sa_sb sa_su sa_st sa_tabs sa_lim sa_rows
attribute [local go_sem] ns_w ns_h ns_mw ns_mh ns_M ns_aw ns_ah ns_A ns_onAlt ns_x ns_y ns_wrap ns_fg ns_bg ns_b ns_u ns_t ns_top ns_bot ns_noWrap ns_hide ns_sx ns_sy ns_sfg ns_sbg ns_sb ns_su ns_st ns_tabs ns_lim ns_rows
attribute [local go_sem] ns_at0 ns_at1 ns_at2 ns_at3 ns_at4 ns_at5 ns_at6 ns_at7 ns_at8 ns_at9 ns_at10 ns_at11 ns_at12 ns_at13 ns_at14 ns_at15 ns_at16 ns_at17 ns_at18 ns_at19 ns_at20 ns_at21 ns_at22 ns_at23 ns_at24 ns_at25 ns_at26 ns_at27 ns_at28 ns_at29 ns_at30 ns_at31 ns_at32 ns_at33 ns_at34 ns_at35 ns_at36 ns_at37
attribute [local go_sem] scr_at0 scr_at1 scr_at2 scr_at3 scr_at4 scr_at5 scr_at6 scr_at7 scr_at8 scr_at9 scr_at10 scr_at11 scr_at12 scr_at13 scr_at14 scr_at15 scr_at16 scr_at17 scr_at18 scr_at19 scr_at20 scr_at21 scr_at22 scr_at23 scr_at24 scr_at25 scr_at26 scr_at27 scr_at28 scr_at29 scr_at30
theorem bsI_any {base : Nat} (A : Option Addr) (n c : Nat) (zs : List Int) (x : Int) (w : World) (ho : OwnI w base A n c zs) (hs : zs.Pairwise (· < ·)) (hn : n ≤ 1000000) :
    Calls Tryz.prog 152 #[.slice A n c, .int .i64 x] w fun e w' => e = .returned (.tuple #[.int .i64 (zs.countP (· < x) : Nat), .bool (zs.contains x)]) ∧ Below w.heap.size w w' := by
  have hl := ho.len
  by_cases h0 : n = 0
  · subst h0
    obtain rfl : zs = [] := List.eq_nil_of_length_eq_zero hl
    refine (Tryz.slices_BinarySearch_int_empty A c x w).mono ?_
    rintro e w' ⟨rfl, rfl⟩
    exact ⟨rfl, Below.refl _ _⟩
  · rcases ho.2 with ⟨_, hz⟩ | ⟨g, cap, cur, hv, _⟩
    · exact absurd hz h0
    · injection hv with e1 e2 e3
      subst e1
      have h := Tryz.slices_BinarySearch_int g 0 n c zs x w (by omega) (by omega) (fun j hj => by
        rw [Nat.zero_add, World.ownsRow.cellAt (h := ho) j (by omega)]
        simp [iv, hj]) (by rw [List.take_of_length_le (by omega)]; exact hs.imp (fun h => by omega))
      rw [List.take_of_length_le (by omega)] at h
      refine h.mono ?_
      rintro e w' ⟨rfl, q, rfl⟩
      exact ⟨rfl, ⟨rfl, rfl, rfl, Nat.le_refl _, fun _ _ => rfl⟩⟩
/-- an open screen with other tab stops -/
theorem tabs_own {y : World} {B n c : Nat} {t : ScrS} {A : Option Addr} {zs : List Int} (h : OwnS y B t) (hi : OwnI y B A n c zs) (hn : n = zs.length) : OwnS y B { t with tA := A, tk := c, tabs := zs } := by
  subst hn; exact ⟨h.c, hi, h.r⟩
theorem keep_tabs {w y : World} {B : Nat} {t : ScrS} (h : OwnS w B t) (on : Only (fun k => (Value.slice t.tA t.tabs.length t.tk).ownBlock = some k) w y) : OwnCs y B (t.M :: t.A :: t.rows) ∧ OwnR y B t.bA t.rows.length t.bk t.rows :=
  ⟨h.c.only on (fun r hr k hk e => own_ne (h.c.1 r hr) h.t (by decide) k hk e), h.r.only on (fun k hk e => h.r.ne h.t (by decide) k e hk)⟩
theorem tabs_put {w y : World} {B n c : Nat} {t : ScrS} {A : Option Addr} {zs : List Int} {g : Nat} (hg : RowN w g t) (h : OwnS w B t) (on : Only (fun k => (Value.slice t.tA t.tabs.length t.tk).ownBlock = some k) w y) (hi : OwnI y B A n c zs) (hn : n = zs.length) :
    RowN y g t ∧ RowN (y.setCell ⟨g, 28, none⟩ (.slice A n c)) g { t with tA := A, tk := c, tabs := zs } ∧ OwnS (y.setCell ⟨g, 28, none⟩ (.slice A n c)) B { t with tA := A, tk := c, tabs := zs } := by
  have h1 : RowN y g t := hg.only on (fun e => hg.ne h.t (by decide) e)
  have h2 := keep_tabs h on
  have h3 : OwnS y B { t with tA := A, tk := c, tabs := zs } := ⟨h2.1, (by subst hn; exact hi), h2.2⟩
  refine ⟨h1, ?_, h1.own h3⟩
  rw [hn]; exact h1.s_tabs
theorem addT_call (t : ScrS) (g B n i : Nat) (v : World) (hN : RowN v g t) (hO : OwnS v B t) (hl : n = t.tabs.length) (hin : i ≤ n) (hnn : n ≤ 121) (hB : B ≤ g) :
    Calls Tryz.prog 153 #[.slice t.tA n t.tk, .int .i64 (i : Nat), .slice (some ⟨v.heap.size, 0, none⟩) 1 1] (v.alloc (.cells #[.int .i64 t.x] 3)).drew fun e y => ∃ A1 c1, e = .returned (.slice A1 (n + 1) c1) ∧ y.cell? ⟨g, 28, none⟩ = some (.slice t.tA n t.tk) ∧ y.frozen? ⟨g, 28, none⟩ = false ∧ g < y.heap.size ∧
      RowN (y.setCell ⟨g, 28, none⟩ (.slice A1 (n + 1) c1)) g { t with tA := A1, tk := c1, tabs := t.tabs.take i ++ t.x :: t.tabs.drop i } ∧ OwnS (y.setCell ⟨g, 28, none⟩ (.slice A1 (n + 1) c1)) B { t with tA := A1, tk := c1, tabs := t.tabs.take i ++ t.x :: t.tabs.drop i } ∧ Below B v (y.setCell ⟨g, 28, none⟩ (.slice A1 (n + 1) c1)) := by
  have ha := (Below.refl v.heap.size v).alloc (Nat.le_refl _) (.cells #[.int .i64 t.x] 3)
  have hN1 : RowN (v.alloc (.cells #[.int .i64 t.x] 3)).drew g t := (hN.alloc _).drew
  have hO1 : OwnS (v.alloc (.cells #[.int .i64 t.x] 3)).drew B t := (hO.below (Nat.le_refl _) ha).drew
  have hgl := hN.lt
  subst hl
  refine (insertI_any (base := B) t.tA t.tabs.length t.tk t.tabs i t.x v.heap.size _ hO1.t hin (by omega) (by have := ha.size; show B ≤ (v.alloc (.cells #[.int .i64 t.x] 3)).heap.size; omega) (heap_alloc_new v _) (fun k hk e => by have := (hO.t.blk k hk).2; omega)).mono ?_
  rintro e y ⟨A1, c1, rfl, hoI, hon, hbk⟩
  obtain ⟨k1, k2, k3⟩ := tabs_put hN1 hO1 hon hoI (by simp; omega)
  refine ⟨A1, c1, rfl, k1.cell 28, k1.free 28, k1.lt, k2, k3, ?_⟩
  have hb : Below B v (v.alloc (.cells #[.int .i64 t.x] 3)).drew := (ha.mono (by omega)).drew
  exact (Only.below_ hon hb (by have := ha.size; show B ≤ (v.alloc (.cells #[.int .i64 t.x] 3)).heap.size; omega) (fun k hk => (hO.t.blk k hk).1)).setCell hB _
set_option maxRecDepth 100000 in
set_option maxHeartbeats 3200000 in
theorem addTab_any (t : ScrS) (g B : Nat) (w : World) (hg : RowN w g t) (ho : OwnS w B t) (hok : okD t.data = true) (hB : B ≤ g) :
    Calls Tryz.prog 117 #[.pointer (some ⟨g, 0, none⟩)] w (Mth B g (tabsD t.data (tabAdd t.x t.tabs)) w) := by
  have hpw : t.tabs.Pairwise (· < ·) := (okT_pw _ _ _ (okD_iff.1 hok).2.2.2.1).1
  have hn : t.tabs.length ≤ 121 := ok_tabs hok
  have HN := Lib.hid hg
  have HO := Lib.hid ho
  have hgl : g < w.heap.size := hg.lt
  obtain ⟨n, hl⟩ : ∃ n, n = t.tabs.length := ⟨_, rfl⟩
  have HL := Lib.hid hl.symm
  have hnn : n ≤ 121 := by rw [hl]; exact hn
  obtain ⟨i, hi⟩ : ∃ i, i = t.tabs.countP (· < t.x) := ⟨_, rfl⟩
  have hin : i ≤ n := by rw [hi, hl]; exact List.countP_le_length
  have k9 : w.cell? ⟨g, 9, none⟩ = some (.int .i64 t.x) := hg.cell 9
  have k28 : w.cell? ⟨g, 28, none⟩ = some (.slice t.tA n t.tk) := by rw [hl]; exact hg.cell 28
  have hto : OwnI w.drew B t.tA n t.tk t.tabs := by rw [hl]; exact ho.t
  have hb0 := bsI_any t.tA n t.tk t.tabs t.x w.drew hto hpw (by omega)
  rw [← hi] at hb0
  cases hc : t.tabs.contains t.x
  · rw [hc] at hb0
    have HB0 := Lib.hid hb0
    have HE := Lib.hid (show tabAdd t.x t.tabs = t.tabs.take i ++ t.x :: t.tabs.drop i by rw [hi]; exact tabAdd_new hpw hc)
    clear hb0 hpw hto hg ho hok hi hc hl
    go_enter Tryz.func117, Tryz.ntmps117
    go_upto_region 0 with fail
    go_region_law (first
      | (go_simp; go_at_call 152; (with_reducible refine HB0.out.mono ?_); rintro e v ⟨rfl, hv⟩; have HV := Lib.hid (show Below w.heap.size w v from ⟨hv.os, hv.tape, hv.output, hv.size, hv.block⟩); clear hv))
    all_goals
      have HN2 := Lib.hid (HN.out.below HV.out hgl)
      have HO2 := Lib.hid (HO.out.below (Nat.le_refl _) HV.out)
      have hgv : g < v.heap.size := HN2.out.lt
      have j9 : v.cell? ⟨g, 9, none⟩ = some (.int .i64 t.x) := HN2.out.cell 9
      have j28 : v.cell? ⟨g, 28, none⟩ = some (.slice t.tA n t.tk) := by rw [← HL.out]; exact HN2.out.cell 28
      have HI := Lib.hid (addT_call t g B n i v HN2.out HO2.out HL.out.symm hin hnn hB)
      have HBV := Lib.hid (HV.out.mono (by omega : B ≤ w.heap.size))
      clear k9 k28
      go_upto_region 2 with fail
      go_region_with ((go_at_call 153; (with_reducible refine HI.out.mono ?_); rintro e y ⟨A1, c1, rfl, q28, q28f, hgy, hK⟩; have K := Lib.hid hK; clear hK))
      all_goals
        clear HI
        go_wp2_with fail
        go_end0
        refine ⟨rfl, _, K.out.1, K.out.2.1, ?_, HBV.out.trans K.out.2.2⟩
        rw [HE.out]; rfl
  · rw [hc] at hb0
    have HB0 := Lib.hid hb0
    have HE := Lib.hid (show tabAdd t.x t.tabs = t.tabs from tabAdd_has hpw hc)
    clear hb0 hpw hto hg ho hok hi hc hl
    go_enter Tryz.func117, Tryz.ntmps117
    go_upto_region 0 with fail
    go_region_law (first
      | (go_simp; go_at_call 152; (with_reducible refine HB0.out.mono ?_); rintro e v ⟨rfl, hv⟩; have HV := Lib.hid (show Below w.heap.size w v from ⟨hv.os, hv.tape, hv.output, hv.size, hv.block⟩); clear hv))
    all_goals
      go_wp2_with fail
      go_end0
      refine ⟨rfl, t, HN.out.below HV.out hgl, HO.out.below (Nat.le_refl _) HV.out, ?_, HV.out.mono (by omega)⟩
      rw [HE.out]; rfl
end Go.Proofs.YtfdbmhelcmifoaaGreat.Sc
namespace Go.Proofs.YtfdbmhelcmifoaaGreat.Sc
open Go.RowKit Go.Proofs.YtfdbmhelcmifoaaGreat.Bytes Go.Proofs.YtfdbmhelcmifoaaGreat.Rows_ Go.Proofs.YtfdbmhelcmifoaaGreat.RowK Go.Proofs.YtfdbmhelcmifoaaGreat.Gr Go.Proofs.YtfdbmhelcmifoaaGreat.DOk Go.Proofs.YtfdbmhelcmifoaaGreat.Opq Go.Proofs.YtfdbmhelcmifoaaGreat.Attr
set_option linter.unusedVariables false
attribute [local go_sem ↓] Sc.exec_storeS Sc.exec_loadS
attribute [local go_sem] blkOf_ptr isHead_ptr aggN_agg setRow_alloc rowZ_at rowZ_past scrA_size nsA_size one_scr rowOf_alloc_at rowOf_alloc_past rowOf_drew ns_pre
attribute [local go_sem] sa_w sa_h sa_mw sa_mh sa_M sa_aw sa_ah sa_A sa_onAlt sa_x sa_y sa_wrap sa_fg sa_bg sa_b sa_u sa_t sa_top sa_bot sa_noWrap sa_hide sa_sx sa_sy sa_sfg sa_sbg sa_sb sa_su sa_st sa_tabs sa_lim sa_rows
attribute [local go_sem] ns_w ns_h ns_mw ns_mh ns_M ns_aw ns_ah ns_A ns_onAlt ns_x ns_y ns_wrap ns_fg ns_bg ns_b ns_u ns_t ns_top ns_bot ns_noWrap ns_hide ns_sx ns_sy ns_sfg ns_sbg ns_sb ns_su ns_st ns_tabs ns_lim ns_rows
attribute [local go_sem] ns_at0 ns_at1 ns_at2 ns_at3 ns_at4 ns_at5 ns_at6 ns_at7 ns_at8 ns_at9 ns_at10 ns_at11 ns_at12 ns_at13 ns_at14 ns_at15 ns_at16 ns_at17 ns_at18 ns_at19 ns_at20 ns_at21 ns_at22 ns_at23 ns_at24 ns_at25 ns_at26 ns_at27 ns_at28 ns_at29 ns_at30 ns_at31 ns_at32 ns_at33 ns_at34 ns_at35 ns_at36 ns_at37
attribute [local go_sem] scr_at0 scr_at1 scr_at2 scr_at3 scr_at4 scr_at5 scr_at6 scr_at7 scr_at8 scr_at9 scr_at10 scr_at11 scr_at12 scr_at13 scr_at14 scr_at15 scr_at16 scr_at17 scr_at18 scr_at19 scr_at20 scr_at21 scr_at22 scr_at23 scr_at24 scr_at25 scr_at26 scr_at27 scr_at28 scr_at29 scr_at30
theorem sizeN38 : (Tryz.prog.info? 146).map (·.size) = some (37 + 1) := by kernel_rfl
theorem loadN (w : World) (b : Nat) (h : (rowOf w b).size = 38) : (Instr.loadAt 146 (.pointer (some ⟨b, 0, none⟩))).run Tryz.prog w = .ok (.agg (rowOf w b)) w :=
  run_load_row Tryz.underlying146 rfl sizeN38 w b h
theorem storeN (w : World) (b : Nat) (C : Array Value) (hz : RowZ w b 38) (hs : C.size = 38) (h1 : One C) : (Instr.storeAt 146 (.pointer (some ⟨b, 0, none⟩)) (.agg C)).run Tryz.prog w = .ok () (w.setRow b C) := by
  obtain ⟨old, T, hb, ho⟩ := hz
  exact run_store_row sizeN38 w b C old ⟨T, hb⟩ ho hs h1
theorem exec_loadN {ρ : Operand → Value} {d : Option Tmp} {x : Operand} {ty : TypeId} {pos : String} {af : Array Edge} {g : Option (Nat × Bool)} (w : World) (hp : isHead (ρ x) = true) (h : (rowOf w (blkOf (ρ x))).size = 38) :
    (execOp ρ ⟨d, .load 146 x, ty, pos, af, g⟩).run Tryz.prog w = .ok (.value (.agg (rowOf w (blkOf (ρ x))))) w := by
  have e := of_head hp
  show (Instr.loadAt 146 (ρ x) >>= fun a => pure (Next.value a)).run _ w = _
  generalize ρ x = v at *
  generalize blkOf v = b at *
  subst e
  rw [Sem.run_bind, loadN w b h]; rfl
theorem exec_storeN {ρ : Operand → Value} {d : Option Tmp} {x y : Operand} {ty : TypeId} {pos : String} {af : Array Edge} {g : Option (Nat × Bool)} (w : World) (hp : isHead (ρ x) = true) (ha : aggN 38 (ρ y) = true) (hz : RowZ w (blkOf (ρ x)) 38) (h1 : One (ρ y).cells) :
    (execOp ρ ⟨d, .store 146 x y, ty, pos, af, g⟩).run Tryz.prog w = .ok .skip (w.setRow (blkOf (ρ x)) (ρ y).cells) := by
  have e := of_head hp
  show (Instr.storeAt 146 (ρ x) (ρ y) >>= fun _ => pure Next.skip).run _ w = _
  generalize ρ y = vy at *
  cases vy <;> simp [aggN] at ha
  rename_i C
  generalize ρ x = v at *
  generalize blkOf v = b at *
  subst e
  rw [Sem.run_bind, storeN w b C hz ha h1]; rfl
theorem one_ns (s : ScrS) : One (nsA s) := nsA_one s
theorem RowN.storeT {w : World} {b : Nat} {s s' : ScrS} (h : RowN w b s) : RowN (w.setRow b (nsA s')) b s' := setRow_heap w b _ _ _ _ h
def RelN (w : World) (d : ScrD) (v : Value) (wx : World) : Prop :=
  ∃ (b : Nat) (s : ScrS), v = .pointer (some ⟨b, 0, none⟩) ∧ RowS wx b s ∧ OwnS wx w.heap.size s ∧ s.data = d ∧ w.heap.size ≤ b ∧ Below w.heap.size w wx
attribute [local go_sem ↓] Go.wp_at_zero Go.wp_at_succ exec_loadN exec_storeN
attribute [local go_sem] one_ns
theorem relN_al {w y : World} {d : ScrD} {s : ScrS} (ho : OwnS y w.heap.size s) (hd : s.data = d) (hb : Below w.heap.size w y) : RelN w d (.pointer (some ⟨y.heap.size, 0, none⟩)) (y.alloc (.cells (scrA s) 31)) :=
  ⟨y.heap.size, s, rfl, RowS.new y s, ho.below (Nat.le_refl _) ((Below.refl _ _).alloc (Nat.le_refl _) _), hd, hb.size, hb.alloc hb.size _⟩
theorem relN_set {w y : World} {d : ScrD} {s : ScrS} {b : Nat} (hz : RowS y b zeroS) (ho : OwnS y (w.heap.size + 1) s) (hd : s.data = d) (hb : Below w.heap.size w y) (e : b = w.heap.size) : RelN w d (.pointer (some ⟨b, 0, none⟩)) (y.setRow b (scrA s)) := by
  subst e
  exact ⟨w.heap.size, s, rfl, hz.store, (ho.row_ _ _ (by omega)).more (by omega), hd, Nat.le_refl _, below_setRow hb (Nat.le_refl _) _⟩
theorem reset_data {s t : ScrS} {W H L : Int} (h : s.data = newD W H L) (hw : t.w = W) (hh : t.h = H) (hl : t.lim = L) : ({ s with bA := t.bA, bk := t.bk, rows := t.rows } : ScrS).data = resetD t.data := by
  have e : resetD t.data = rowsD (newD W H L) t.data.rows := by unfold resetD; rw [show t.data.w = W from hw, show t.data.h = H from hh, show t.data.lim = L from hl]
  rw [e, ← h]; rfl
/-- rows that were there and grids that are new -/
theorem own_reset {w y : World} {B : Nat} {s t : ScrS} (ht : OwnS w B t) (hs : OwnS y w.heap.size s) (hb : Below w.heap.size w y) (hB : B ≤ w.heap.size) : OwnS y B { s with bA := t.bA, bk := t.bk, rows := t.rows } := by
  have h := ht.below (Nat.le_refl _) hb
  have hc := h.c.tail.tail
  have hcut := ht.c.tail.tail
  refine ⟨⟨fun r hr => ?_, ?_⟩, hs.t.more hB, h.r⟩
  · rcases List.mem_cons.1 hr with rfl | hr
    · exact hs.m.more hB
    · rcases List.mem_cons.1 hr with rfl | hr
      · exact hs.a.more hB
      · exact hc.1 r hr
  · refine List.pairwise_cons.2 ⟨fun z hz => ?_, List.pairwise_cons.2 ⟨fun z hz => ?_, hc.2⟩⟩
    · rcases List.mem_cons.1 hz with rfl | hz
      · exact (List.pairwise_cons.1 hs.c.2).1 _ (by simp)
      · exact (apart_of (w0 := w) (hcut.1 z hz) hs.m (Nat.le_refl _)).symm
    · exact (apart_of (w0 := w) (hcut.1 z hz) hs.a (Nat.le_refl _)).symm
set_option maxRecDepth 100000 in
set_option maxHeartbeats 3200000 in
theorem reset_any (t : ScrS) (g B : Nat) (w : World) (hg : RowN w g t) (ho : OwnS w B t) (hok : okD t.data = true) (hB : B ≤ g) :
    Calls Tryz.prog 118 #[.pointer (some ⟨g, 0, none⟩)] w (Mth B g (resetD t.data) w) := by
  have HN := Lib.hid hg
  have HO := Lib.hid ho
  have hgl : g < w.heap.size := hg.lt
  have k0 : w.cell? ⟨g, 0, none⟩ = some (.int .i64 t.w) := hg.cell 0
  have k1 : w.cell? ⟨g, 1, none⟩ = some (.int .i64 t.h) := hg.cell 1
  have k29 : w.cell? ⟨g, 29, none⟩ = some (.int .i64 t.lim) := hg.cell 29
  have hnb : newB t.w t.h t.lim = true := ok_size0 hok
  have HC := Lib.hid (show ∀ W, Calls Tryz.prog 154 #[.int .i64 t.w, .int .i64 t.h, .int .i64 t.lim] W fun e w' => ∃ s, e = .returned (.tuple #[.agg (scrA s), .bool true]) ∧ OwnS w' W.heap.size s ∧ s.data = newD t.w t.h t.lim ∧ Below W.heap.size W w' from fun W => by
    have h := impl_ScrNew_any t.w t.h t.lim W
    unfold AnsNew at h; rw [hnb] at h; exact h)
  have hone0 : One #[.int .i64 0, .int .i64 0, .int .i64 0, .int .i64 0, .slice none 0 0, .int .i64 0, .int .i64 0, .slice none 0 0, .bool false, .int .i64 0, .int .i64 0, .bool false, .int .i64 0, .int .i64 0, .bool false, .bool false, .bool false, .int .i64 0, .int .i64 0, .bool false, .bool false, .int .i64 0, .int .i64 0, .int .i64 0, .int .i64 0, .bool false, .bool false, .bool false, .slice none 0 0, .int .i64 0, .slice none 0 0] := one_scr zeroS
  have AL := Lib.hid ((Below.refl w.heap.size w).alloc (Nat.le_refl _) (.cells #[.int .i64 0, .int .i64 0, .int .i64 0, .int .i64 0, .slice none 0 0, .int .i64 0, .int .i64 0, .slice none 0 0, .bool false, .int .i64 0, .int .i64 0, .bool false, .int .i64 0, .int .i64 0, .bool false, .bool false, .bool false, .int .i64 0, .int .i64 0, .bool false, .bool false, .int .i64 0, .int .i64 0, .int .i64 0, .int .i64 0, .bool false, .bool false, .bool false, .slice none 0 0, .int .i64 0, .slice none 0 0] 31))
  have AZ := Lib.hid (RowS.new w zeroS)
  have HK := Lib.hid hok
  clear hg ho hok hnb
  go_enter Tryz.func118, Tryz.ntmps118
  go_upto_region 0 with fail
  go_cut [2] (fun s wx => RelN w (newD t.w t.h t.lim) s wx)
  case first =>
    go_region_with (first
      | (go_at_call 154; (with_reducible refine (HC.out _).mono ?_); rintro e y ⟨s9, rfl, ho9, hd9, hb9⟩; (first | (have HB9 := Lib.hid (show Below w.heap.size w y from ⟨hb9.os, hb9.tape, hb9.output, hb9.size, hb9.block⟩); have HO9 := Lib.hid (show OwnS y w.heap.size s9 from ho9)) | (have HX9 := Lib.hid (show Below (w.alloc (.cells #[.int .i64 0, .int .i64 0, .int .i64 0, .int .i64 0, .slice none 0 0, .int .i64 0, .int .i64 0, .slice none 0 0, .bool false, .int .i64 0, .int .i64 0, .bool false, .int .i64 0, .int .i64 0, .bool false, .bool false, .bool false, .int .i64 0, .int .i64 0, .bool false, .bool false, .int .i64 0, .int .i64 0, .int .i64 0, .int .i64 0, .bool false, .bool false, .bool false, .slice none 0 0, .int .i64 0, .slice none 0 0] 31)).heap.size (w.alloc (.cells #[.int .i64 0, .int .i64 0, .int .i64 0, .int .i64 0, .slice none 0 0, .int .i64 0, .int .i64 0, .slice none 0 0, .bool false, .int .i64 0, .int .i64 0, .bool false, .int .i64 0, .int .i64 0, .bool false, .bool false, .bool false, .int .i64 0, .int .i64 0, .bool false, .bool false, .int .i64 0, .int .i64 0, .int .i64 0, .int .i64 0, .bool false, .bool false, .bool false, .slice none 0 0, .int .i64 0, .slice none 0 0] 31)) y from ⟨hb9.os, hb9.tape, hb9.output, hb9.size, hb9.block⟩); have HB9 := Lib.hid (show Below w.heap.size w y from AL.out.trans (HX9.out.mono (by simp))); have HZ9 := Lib.hid (show RowS y w.heap.size zeroS from RowS.below AZ.out HX9.out (by simp)); have HO9 := Lib.hid (show OwnS y (w.heap.size + 1) s9 from ho9.more (by simp)); have rz9 : RowZ y w.heap.size 31 := RowZ.of HZ9.out.row 31 rfl)); have HD9 := Lib.hid hd9; clear ho9 hd9 hb9))
    all_goals
      go_wp2_with fail
      go_meet
      case rel => (first | exact relN_al HO9.out HD9.out HB9.out | exact relN_set HZ9.out HO9.out HD9.out HB9.out rfl)
  case rest =>
    obtain ⟨b, s, rfl, hrs, hos, hds, hbb, hbw⟩ := hcut
    have HS := Lib.hid hrs
    have HOS := Lib.hid hos
    have HDS := Lib.hid hds
    have HBW := Lib.hid hbw
    have HN2 := Lib.hid (HN.out.below hbw hgl)
    have hne : b ≠ g := by omega
    have hne' : g ≠ b := by omega
    have hbl : b < wc.heap.size := hrs.lt
    have hgl2 : g < wc.heap.size := HN2.out.lt
    have j34 : wc.cell? ⟨g, 34, none⟩ = some (.slice t.bA t.rows.length t.bk) := HN2.out.cell 34
    have j30 : wc.cell? ⟨b, 30, none⟩ = some (.slice s.bA s.rows.length s.bk) := hrs.cell 30
    have jf := hrs.free
    have HS3 := Lib.hid (show RowS (wc.setCell ⟨b, 30, none⟩ (.slice t.bA t.rows.length t.bk)) b { s with bA := t.bA, bk := t.bk, rows := t.rows } from hrs.s_rows)
    have HN3 := Lib.hid (show RowN (wc.setCell ⟨b, 30, none⟩ (.slice t.bA t.rows.length t.bk)) g t from HN2.out.other hne')
    have HO3 := Lib.hid (show OwnS (wc.setCell ⟨b, 30, none⟩ (.slice t.bA t.rows.length t.bk)) B { s with bA := t.bA, bk := t.bk, rows := t.rows } from
      (own_reset HO.out hos hbw (by omega)).only (S := fun i => i = b) (Only.cell_ wc b 30 _ rfl) (fun i hi e => hrs.apart (own_reset HO.out hos hbw (by omega)) (e ▸ hi)))
    have HB3 := Lib.hid (show Below w.heap.size w (wc.setCell ⟨b, 30, none⟩ (.slice t.bA t.rows.length t.bk)) from hbw.setCell hbb _)
    have HD3 := Lib.hid (show ({ s with bA := t.bA, bk := t.bk, rows := t.rows } : ScrS).data = resetD t.data from reset_data hds rfl rfl rfl)
    clear hrs hos hds hbw HC AL AZ
    go_upto_region 2 with fail
    obtain ⟨V, hV⟩ : ∃ V, V = wc.setCell ⟨b, 30, none⟩ (.slice t.bA t.rows.length t.bk) := ⟨_, rfl⟩
    rw [← hV]
    rw [← hV] at HS3 HN3 HO3 HB3
    clear hV j34 j30 jf
    obtain ⟨s3, hs3⟩ : ∃ s3 : ScrS, s3 = { s with bA := t.bA, bk := t.bk, rows := t.rows } := ⟨_, rfl⟩
    rw [← hs3] at HS3 HO3 HD3
    clear hs3
    have hbV : b < V.heap.size := HS3.out.lt
    have hgV : g < V.heap.size := HN3.out.lt
    have rowB_ : rowOf V b = scrA s3 := HS3.out.of
    have hsz : szS s3 ≤ 1048576 := by rw [szS_of HD3.out]; have := ok_size (ok_reset HK.out); omega
    have HNS := Lib.hid (newScreen_any s3 V B HO3.out hsz)
    go_wp2_with fail
    refine HNS.out.mono ?_
    rintro e v2 ⟨g2, t2, rfl, hN2, hO2, hD2, hg2, hb2⟩
    have HN4 := Lib.hid (HN3.out.below hb2 hgV)
    have HO4 := Lib.hid hO2
    have HD4 := Lib.hid (hD2.trans HD3.out)
    have HB4 := Lib.hid (HB3.out.trans (hb2.mono HB3.out.size))
    have row2 : rowOf v2 g2 = nsA t2 := hN2.of
    have rz2 : RowZ v2 g 38 := RowZ.of HN4.out.row 38 rfl
    clear hN2 hO2 hD2 hb2 rowB_ HNS
    go_wp2_with fail
    go_end0
    exact ⟨rfl, t2, HN4.out.storeT, (HO4.out.row_ g (nsA t2) hgV).more (by omega), HD4.out, below_setRow (HB4.out.mono (by omega)) hB _⟩
set_option maxRecDepth 100000 in
set_option maxHeartbeats 3200000 in
theorem escape_any (t : ScrS) (g B : Nat) (w : World) (z : Int) (hg : RowN w g t) (ho : OwnS w B t) (hok : okD t.data = true) (hB : B ≤ g) :
    Calls Tryz.prog 66 #[.pointer (some ⟨g, 0, none⟩), .int .i64 z] w (Mth B g (escD t.data z) w) := by
  have HDN := Lib.hid (down_any t g B w hg ho hok hB)
  have HUP := Lib.hid (up_any t g B w hg ho hok hB)
  have HTB := Lib.hid (addTab_any t g B w hg ho hok hB)
  have HRS := Lib.hid (reset_any t g B w hg ho hok hB)
  have HSV := Lib.hid (saveCursor_any t g w hg)
  have HBD := Lib.hid (bacS_data hok)
  have HN := Lib.hid hg
  have HO := Lib.hid ho
  have HBC := Lib.hid (by
    obtain ⟨W, H, X, Y, T, Bt, L, fit⟩ := ok_fit hok
    have ew : t.w = (W : Int) := fit.w
    have eh : t.h = (H : Int) := fit.h
    have q1 := fit.w1; have q2 := fit.w2; have q3 := fit.h1; have q4 := fit.h2
    exact restoreCursor_any t g w hg (by omega) (by omega) (by omega) (by omega))
  clear hg ho hok
  by_cases h68 : z = 68
  · subst h68
    have HU := Lib.hid (show escD t.data 68 = downD t.data by unfold escD; rw [if_pos rfl])
    go_enter Tryz.func66, Tryz.ntmps66
    go_wp2_with fail
    refine HDN.out.mono ?_
    rintro e v ⟨rfl, K0⟩
    rw [← HU.out] at K0
    have K := Lib.hid K0
    clear K0 HDN HUP HTB HRS HSV HBC
    go_wp2_with fail
    go_end0
    exact ⟨rfl, K.out⟩
  by_cases h77 : z = 77
  · subst h77
    have HU := Lib.hid (show escD t.data 77 = upD t.data by unfold escD; rw [if_neg (by decide), if_pos rfl])
    go_enter Tryz.func66, Tryz.ntmps66
    go_wp2_with fail
    refine HUP.out.mono ?_
    rintro e v ⟨rfl, K0⟩
    rw [← HU.out] at K0
    have K := Lib.hid K0
    clear K0 HDN HUP HTB HRS HSV HBC
    go_wp2_with fail
    go_end0
    exact ⟨rfl, K.out⟩
  by_cases h69 : z = 69
  · subst h69
    have HU := Lib.hid (show escD t.data 69 = x0D (downD t.data) by unfold escD; rw [if_neg (by decide), if_neg (by decide), if_pos rfl])
    go_enter Tryz.func66, Tryz.ntmps66
    go_wp2_with fail
    refine HDN.out.mono ?_
    rintro e v ⟨rfl, t2, hR, hO, hdd, hb⟩
    have HR2 := Lib.hid hR
    have K := Lib.hid (show ∃ t', RowN (v.setCell ⟨g, 9, none⟩ (.int .i64 0)) g t' ∧ OwnS (v.setCell ⟨g, 9, none⟩ (.int .i64 0)) B t' ∧ t'.data = escD t.data 69 ∧ Below B w (v.setCell ⟨g, 9, none⟩ (.int .i64 0)) from ⟨{ t2 with x := 0 }, hR.s_x, (by have h : OwnS (v.setCell ⟨g, 9, none⟩ (.int .i64 0)) B t2 := hR.own hO; exact ⟨h.c, h.t, h.r⟩), (by rw [HU.out, ← hdd]; rfl), hb.setCell hB _⟩)
    have c9 : v.cell? ⟨g, 9, none⟩ = some (.int .i64 t2.x) := hR.cell 9
    have f9 := hR.free 9
    clear hR hO hdd hb HDN HUP HTB HRS HSV HBC
    go_wp2_with fail
    go_end0
    exact ⟨rfl, K.out⟩
  by_cases h55 : z = 55
  · subst h55
    have HU := Lib.hid (show escD t.data 55 = saveD t.data by unfold escD; rw [if_neg (by decide), if_neg (by decide), if_neg (by decide), if_pos rfl])
    go_enter Tryz.func66, Tryz.ntmps66
    go_wp2_with fail
    refine HSV.out.mono ?_
    rintro e v ⟨rfl, hR, hon⟩
    have K := Lib.hid (show ∃ t', RowN v g t' ∧ OwnS v B t' ∧ t'.data = escD t.data 55 ∧ Below B w v from ⟨savS t, hR, (by have h := HO.out.only hon (fun i hi e => HN.out.apart HO.out (e ▸ hi)); exact ⟨h.c, h.t, h.r⟩), (by rw [HU.out]; rfl), Only.below_ hon (Below.refl B _) (by have := HN.out.lt; omega) (fun i hi => by subst hi; exact hB)⟩)
    clear hR hon HDN HUP HTB HRS HSV HBC
    go_wp2_with fail
    go_end0
    exact ⟨rfl, K.out⟩
  by_cases h56 : z = 56
  · subst h56
    have HU := Lib.hid (show escD t.data 56 = backD t.data by unfold escD; rw [if_neg (by decide), if_neg (by decide), if_neg (by decide), if_neg (by decide), if_pos rfl])
    go_enter Tryz.func66, Tryz.ntmps66
    go_wp2_with fail
    refine HBC.out.mono ?_
    rintro e v ⟨rfl, hR, hon⟩
    have K := Lib.hid (show ∃ t', RowN v g t' ∧ OwnS v B t' ∧ t'.data = escD t.data 56 ∧ Below B w v from ⟨bacS t, hR, (by have h := HO.out.only hon (fun i hi e => HN.out.apart HO.out (e ▸ hi)); exact ⟨h.c, h.t, h.r⟩), (by rw [HU.out, HBD.out]), Only.below_ hon (Below.refl B _) (by have := HN.out.lt; omega) (fun i hi => by subst hi; exact hB)⟩)
    clear hR hon HDN HUP HTB HRS HSV HBC
    go_wp2_with fail
    go_end0
    exact ⟨rfl, K.out⟩
  by_cases h72 : z = 72
  · subst h72
    have HU := Lib.hid (show escD t.data 72 = tabsD t.data (tabAdd t.x t.tabs) by unfold escD; rw [if_neg (by decide), if_neg (by decide), if_neg (by decide), if_neg (by decide), if_neg (by decide), if_pos rfl]; rfl)
    go_enter Tryz.func66, Tryz.ntmps66
    go_wp2_with fail
    refine HTB.out.mono ?_
    rintro e v ⟨rfl, K0⟩
    rw [← HU.out] at K0
    have K := Lib.hid K0
    clear K0 HDN HUP HTB HRS HSV HBC
    go_wp2_with fail
    go_end0
    exact ⟨rfl, K.out⟩
  by_cases h99 : z = 99
  · subst h99
    have HU := Lib.hid (show escD t.data 99 = resetD t.data by unfold escD; rw [if_neg (by decide), if_neg (by decide), if_neg (by decide), if_neg (by decide), if_neg (by decide), if_neg (by decide), if_pos rfl])
    go_enter Tryz.func66, Tryz.ntmps66
    go_wp2_with fail
    refine HRS.out.mono ?_
    rintro e v ⟨rfl, K0⟩
    rw [← HU.out] at K0
    have K := Lib.hid K0
    clear K0 HDN HUP HTB HRS HSV HBC
    go_wp2_with fail
    go_end0
    exact ⟨rfl, K.out⟩
  have HU := Lib.hid (show escD t.data z = t.data by unfold escD; rw [if_neg h68, if_neg h77, if_neg h69, if_neg h55, if_neg h56, if_neg h72, if_neg h99])
  clear HDN HUP HTB HRS HSV HBC
  go_enter Tryz.func66, Tryz.ntmps66
  go_wp2_with fail
  go_end0
  exact ⟨rfl, t, HN.out, HO.out, HU.out.symm, Below.refl _ _⟩
end Go.Proofs.YtfdbmhelcmifoaaGreat.Sc
