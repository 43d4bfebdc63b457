/- Words for slices of loads (each a struct of one byte slice), that came in or are the call's own; the laws' helpers that copy, compare and bound them. -/
import Derived.Test.YteiojpglhmikoaaBytesC
import Derived.Test.YteiojpglhmikoaaBytesM
import Derived.Test.YteiojpglhmikoaaAppend
import Derived.Test.YteiojpglhmikoaaKiA
import Derived.Lib.BufferWrite
import Derived.Deep.RegionWith
namespace Go.Proofs.Yteiojpglhmikoaa.Loads
open Go.RowKit Go.Proofs.Yteiojpglhmikoaa.Bytes Go.Proofs.Yteiojpglhmikoaa.Rows_
set_option linter.unusedVariables false

structure LoadD where
  A : Option Addr
  n : Nat
  c : Nat
  bytes : List Int
instance : Inhabited LoadD := ⟨⟨none, 0, 0, []⟩⟩
def sl (x : LoadD) : Value := .slice x.A x.n x.c
def loadR (x : LoadD) : List Value := [.slice x.A x.n x.c]
def key (x : LoadD) : Nat × List Int := (x.n, x.bytes)
def RdLo (w : World) (B : Nat) (A : Option Addr) (gs : List LoadD) : Prop :=
  0 < gs.length → ∃ b o, A = some ⟨b, o, none⟩ ∧ b < B ∧ ∀ i (h : i < gs.length), w.cell? ⟨b, o + i, none⟩ = some (sl gs[i])
section
variable {w w' : World} {B B' : Nat} {A : Option Addr} {gs : List LoadD}
theorem RdLo.below (h : RdLo w B A gs) (hB : B ≤ B') (hb : Below B' w w') : RdLo w' B A gs := by
  intro hn
  obtain ⟨b, o, e, hlt, hc⟩ := h hn
  exact ⟨b, o, e, hlt, fun i hi => (hb.cell (p := ⟨b, o + i, none⟩) (Nat.lt_of_lt_of_le hlt hB)).trans (hc i hi)⟩
theorem RdLo.more (h : RdLo w B A gs) (hB : B ≤ B') : RdLo w B' A gs := by
  intro hn
  obtain ⟨b, o, e, hlt, hc⟩ := h hn
  exact ⟨b, o, e, Nat.lt_of_lt_of_le hlt hB, hc⟩
theorem RdLo.at_ (h : RdLo w B A gs) {i : Nat} (hi : i < gs.length) : ∃ b o, A = some ⟨b, o, none⟩ ∧ b < B ∧ w.cell? ⟨b, o + i, none⟩ = some (.slice gs[i].A gs[i].n gs[i].c) := by
  obtain ⟨b, o, e, hlt, hc⟩ := h (by omega)
  exact ⟨b, o, e, hlt, hc i hi⟩
theorem RdLo.of_K (h : RdK 1 w B A (gs.map loadR)) : RdLo w B A gs := by
  intro hn
  obtain ⟨b, o, e, hlt, hc⟩ := h (by rw [List.length_map]; exact hn)
  refine ⟨b, o, e, hlt, fun i hi => ?_⟩
  have := hc i (loadR gs[i]) (by simp [hi]) 0 _ rfl
  rw [Nat.mul_one, Nat.add_zero] at this; exact this
end
/-- the bytes of the loads -/
def RdBs (w : World) (B : Nat) (gs : List LoadD) : Prop := ∀ g ∈ gs, Rd w B g.A g.bytes ∧ g.bytes.length = g.n ∧ Rng g.bytes
theorem RdBs.below {w w' : World} {B B' : Nat} {gs : List LoadD} (h : RdBs w B gs) (hB : B ≤ B') (hb : Below B' w w') : RdBs w' B gs := fun f hf => ⟨(h f hf).1.below hB hb, (h f hf).2⟩
theorem RdBs.more {w : World} {B B' : Nat} {gs : List LoadD} (h : RdBs w B gs) (hB : B ≤ B') : RdBs w B' gs := fun f hf => ⟨(h f hf).1.more hB, (h f hf).2⟩
def tot (gs : List LoadD) : Nat := (gs.map (·.n)).sum
theorem tot_snoc (gs : List LoadD) (k : Nat) (h : k < gs.length) : tot (gs.take (k + 1)) = tot (gs.take k) + gs[k].n := by
  unfold tot; rw [List.take_succ_eq_append_getElem h, List.map_append, List.sum_append]; simp
theorem tot_take (gs : List LoadD) (k : Nat) : tot (gs.take k) ≤ tot gs := by
  have := congrArg tot (List.take_append_drop k gs)
  unfold tot at this ⊢
  rw [List.map_append, List.sum_append] at this; omega
theorem tot_mem {gs : List LoadD} {g : LoadD} (h : g ∈ gs) : g.n ≤ tot gs := by
  obtain ⟨i, hi, rfl⟩ := List.mem_iff_getElem.1 h
  have h1 := tot_snoc gs i hi
  have h2 := tot_take gs (i + 1)
  omega
/-- same contents -/
theorem key_at {gs fs : List LoadD} (h : gs.map key = fs.map key) (i : Nat) (h1 : i < gs.length) (h2 : i < fs.length) : gs[i].n = fs[i].n ∧ gs[i].bytes = fs[i].bytes := by
  have := congrArg (fun l => l[i]?) h
  simp only [List.getElem?_map, List.getElem?_eq_getElem h1, List.getElem?_eq_getElem h2, Option.map_some, Option.some.injEq] at this
  unfold key at this
  simp only [Prod.mk.injEq] at this
  exact this
theorem key_len {gs fs : List LoadD} (h : gs.map key = fs.map key) : gs.length = fs.length := by have := congrArg List.length h; simpa using this
theorem key_bytes {gs fs : List LoadD} (h : gs.map key = fs.map key) : gs.map (·.bytes) = fs.map (·.bytes) := by
  have := congrArg (fun l => l.map Prod.snd) h
  simpa [key, Function.comp_def] using this
theorem key_tot {gs fs : List LoadD} (h : gs.map key = fs.map key) : tot gs = tot fs := by
  have := congrArg (fun l => (l.map Prod.fst).sum) h
  simpa [key, tot, Function.comp_def] using this

/-! ### loads of the call's own -/
def OwnLo (w : World) (base : Nat) (A : Option Addr) (n c : Nat) (gs : List LoadD) : Prop := w.ownsRow base 32 1 (.slice A n c) n (gs.map sl)
def Sep (a b : LoadD) : Prop := ∀ g, (sl a).ownBlock = some g → (sl b).ownBlock ≠ some g
def OwnBs (w : World) (base : Nat) (gs : List LoadD) : Prop := (∀ f ∈ gs, Own w base f.A f.n f.c f.bytes) ∧ gs.Pairwise Sep
theorem OwnLo.len {w : World} {base : Nat} {A : Option Addr} {n c : Nat} {gs : List LoadD} (h : OwnLo w base A n c gs) : gs.length = n := by
  have := h.1; simpa using this
theorem OwnLo.rd {w : World} {base : Nat} {A : Option Addr} {n c : Nat} {gs : List LoadD} (h : OwnLo w base A n c gs) : RdLo w w.heap.size A gs := by
  intro hn
  have hl := h.len
  rcases h.2 with ⟨_, hz⟩ | ⟨g, cap, cur, hv, hb, hg, hnc, hm, hs, ht⟩
  · omega
  · injection hv with e1 e2 e3
    subst e1 e3
    refine ⟨g, 0, rfl, (Array.getElem?_eq_some_iff.1 hg).1, fun k hk => ?_⟩
    rw [Nat.zero_add, World.ownsRow.cellAt (h := h) k (by omega)]
    simp [hk]
theorem own_belowK {w w' : World} {base K n B : Nat} {E : TypeId} {v : Value} {xs : List Value} (h : w.ownsRow base E K v n xs) (hB : w.heap.size ≤ B) (hb : Below B w w') : w'.ownsRow base E K v n xs := by
  refine ⟨h.1, ?_⟩
  rcases h.2 with h0 | ⟨g, cap, cur, hv, hbb, hg, rest⟩
  · exact .inl h0
  · have hlt : g < w.heap.size := (Array.getElem?_eq_some_iff.1 hg).1
    exact .inr ⟨g, cap, cur, hv, hbb, by rw [hb.block g (by omega)]; exact hg, rest⟩
theorem own_moreK {w : World} {base base' K n : Nat} {E : TypeId} {v : Value} {xs : List Value} (h : w.ownsRow base E K v n xs) (hB : base' ≤ base) : w.ownsRow base' E K v n xs := by
  refine ⟨h.1, ?_⟩
  rcases h.2 with h0 | ⟨g, cap, cur, hv, hbb, rest⟩
  · exact .inl h0
  · exact .inr ⟨g, cap, cur, hv, by omega, rest⟩
theorem own_setNe {w : World} {base K n : Nat} {E : TypeId} {v : Value} {xs : List Value} (h : w.ownsRow base E K v n xs) (b i : Nat) (x : Value) (hb : v.ownBlock ≠ some b) : (w.setCell ⟨b, i, none⟩ x).ownsRow base E K v n xs :=
  World.ownsRow.kept h (Go.Lib.grownBy_setCell w b i x) (.inr hb)
theorem own_setK {w : World} {base K n : Nat} {E : TypeId} {v : Value} {xs : List Value} (h : w.ownsRow base E K v n xs) (b i : Nat) (x : Value) (hb : b < base) : (w.setCell ⟨b, i, none⟩ x).ownsRow base E K v n xs :=
  own_setNe h b i x fun e => by have := (World.ownsRow.lt h b e).1; omega
/-- rows of different types lie on different blocks -/
theorem own_ne {w : World} {base base' K K' n n' : Nat} {E E' : TypeId} {v v' : Value} {xs xs' : List Value} (h : w.ownsRow base E K v n xs) (h' : w.ownsRow base' E' K' v' n' xs') (hE : E ≠ E') : ∀ g, v.ownBlock = some g → v'.ownBlock ≠ some g := by
  intro g hv hv'
  rcases h.2 with ⟨rfl, _⟩ | ⟨g1, _, _, rfl, _, h1, _⟩
  · cases hv
  · rcases h'.2 with ⟨rfl, _⟩ | ⟨g2, _, _, rfl, _, h2, _⟩
    · cases hv'
    · simp only [Value.ownBlock, Option.some.injEq] at hv hv'
      subst hv hv'
      rw [h1] at h2
      simp only [Option.some.injEq, Obj.cells.injEq] at h2
      exact hE h2.2.1
theorem OwnLo.below {w w' : World} {base B : Nat} {A : Option Addr} {n c : Nat} {gs : List LoadD} (h : OwnLo w base A n c gs) (hB : w.heap.size ≤ B) (hb : Below B w w') : OwnLo w' base A n c gs := own_belowK h hB hb
theorem OwnLo.more {w : World} {base base' : Nat} {A : Option Addr} {n c : Nat} {gs : List LoadD} (h : OwnLo w base A n c gs) (hB : base' ≤ base) : OwnLo w base' A n c gs := own_moreK h hB
theorem OwnBs.below {w w' : World} {base B : Nat} {gs : List LoadD} (h : OwnBs w base gs) (hB : w.heap.size ≤ B) (hb : Below B w w') : OwnBs w' base gs := ⟨fun f hf => (h.1 f hf).below hB hb, h.2⟩
theorem OwnBs.more {w : World} {base base' : Nat} {gs : List LoadD} (h : OwnBs w base gs) (hB : base' ≤ base) : OwnBs w base' gs := ⟨fun f hf => (h.1 f hf).more hB, h.2⟩
theorem OwnBs.set_ {w : World} {base : Nat} {gs : List LoadD} (h : OwnBs w base gs) (b i : Nat) (v : Value) (hb : b < base) : OwnBs (w.setCell ⟨b, i, none⟩ v) base gs := ⟨fun f hf => own_setK (h.1 f hf) b i v hb, h.2⟩
theorem OwnBs.nil (w : World) (base : Nat) : OwnBs w base [] := ⟨(fun f hf => by cases hf), List.Pairwise.nil⟩
/-- one more, made later -/
theorem OwnBs.snoc {w v : World} {base base' : Nat} {gs : List LoadD} {g : LoadD} (h : OwnBs w base gs) (hb : Below w.heap.size w v) (ho : Own v base' g.A g.n g.c g.bytes) (hB : w.heap.size ≤ base') (hbase : base ≤ base') : OwnBs v base (gs ++ [g]) := by
  refine ⟨fun f hf => ?_, List.pairwise_append.2 ⟨h.2, List.pairwise_singleton _ _, fun a ha b hb' => ?_⟩⟩
  · rcases List.mem_append.1 hf with hf | hf
    · exact (h.1 f hf).below (Nat.le_refl _) hb
    · rw [List.mem_singleton] at hf; subst hf; exact ho.more hbase
  · rw [List.mem_singleton] at hb'; subst hb'
    exact (h.1 a ha).ne_ ho hB
theorem OwnBs.rdB {w : World} {base : Nat} {gs : List LoadD} (h : OwnBs w base gs) (hr : ∀ g ∈ gs, Rng g.bytes) : RdBs w w.heap.size gs := fun f hf => ⟨(h.1 f hf).rd, (h.1 f hf).len, hr f hf⟩

theorem there {w : World} {base g n c : Nat} {E : TypeId} {xs : List Value} (h : w.ownsRow base E 1 (.slice (some ⟨g, 0, none⟩) n c) n xs) (j : Nat) (hj : j < n) : ∃ u, w.cell? ⟨g, j, none⟩ = some u := by
  rw [World.ownsRow.cellAt (h := h) j (by omega)]
  exact ⟨_, List.getElem?_eq_getElem (by have := h.1; omega)⟩

set_option maxRecDepth 100000 in
set_option maxHeartbeats 1600000 in
theorem toLoad_any (A : Option Addr) (n c : Nat) (zs : List Int) (w : World) (hr : Rd w w.heap.size A zs) (hl : zs.length = n) (hn : n ≤ 1099511627776) :
    Calls Try.prog 55 #[.agg #[.slice A n c]] w
      fun e w' => ∃ A' c', e = .returned (.agg #[.slice A' n c']) ∧ Own w' w.heap.size A' n c' zs ∧ Below w.heap.size w w' := by
  have HR := Lib.hid hr
  have HL := Lib.hid hl
  clear hr hl
  have hb0 := Lib.hid ((((Below.refl w.heap.size w).alloc (Nat.le_refl _) (.cells #[.slice A n c] 80)).alloc (by simp) (.cells #[.slice none 0 0] 32)).alloc (by simp; omega) (.cells #[.slice none 0 0] 32))
  go_enter Try.func55, Try.ntmps55
  go_wp2_with fail
  refine (toByteS_any A n c zs _ ((HR.out.below (Nat.le_refl _) hb0.out).more (by simp; omega)) HL.out (by omega)).mono ?_
  rintro e v1 ⟨A1, c1, rfl, ho1, hb1⟩
  have HO := Lib.hid ho1
  have HB1 := Lib.hid hb1
  obtain ⟨hc, hf⟩ := bcell hb1
  have hz : w.heap.size + 2 < v1.heap.size := by have := hb1.size; simp at this; omega
  clear ho1 hb1
  have s1 : w.heap.size < w.heap.size + 1 + 1 + 1 := by omega
  have s2 : w.heap.size + 1 < w.heap.size + 1 + 1 + 1 := by omega
  go_wp2_with fail
  refine bodyPost_ret (v := .agg #[.slice A1 n c1]) (by simp [results, Try.results55, go_sem, hc]) rfl ⟨A1, c1, rfl, ?_, ?_⟩
  · have h0 := HO.out.more (base' := w.heap.size + 3) (by simp)
    have h1 := own_setK (own_setK h0 (w.heap.size + 1 + 1) 0 (.slice A1 n c1) (by omega)) (w.heap.size + 1) 0 (.slice A1 n c1) (by omega)
    exact Own.more h1 (by omega)
  · have h0 := hb0.out.trans (HB1.out.mono (by simp; omega))
    exact (h0.setCell (by simp; omega) _).setCell (by simp) _

theorem loadInfo : (Try.prog.info? 32).map (fun i => (i.zero, i.size, i.bytes)) = some (some (.agg #[.slice none 0 0]), 1, 24) := by kernel_rfl
def part (gs : List LoadD) (n k : Nat) : List Value := gs.map sl ++ List.replicate (n - k) (.slice none 0 0)
theorem part_set {gs : List LoadD} {n k : Nat} (hl : gs.length = k) (hk : k < n) (g : LoadD) : (part gs n k).set k (sl g) = part (gs ++ [g]) n (k + 1) := by
  unfold part
  rw [List.set_append_right _ _ (by rw [List.length_map]; omega), List.length_map, hl, Nat.sub_self, show n - k = (n - (k + 1)) + 1 by omega, List.replicate_succ, List.set_cons_zero, List.map_append, List.append_assoc]; rfl

set_option maxRecDepth 100000 in
set_option maxHeartbeats 3200000 in
theorem toLoadS_any (F : Option Addr) (n c : Nat) (fs : List LoadD) (w : World) (hr : RdLo w w.heap.size F fs) (hl : fs.length = n) (hn : n ≤ 2097152) (hrb : RdBs w w.heap.size fs) (hfn : ∀ f ∈ fs, f.n ≤ 1099511627776) :
    Calls Try.prog 23 #[.slice F n c] w fun e w' => ∃ A' c' gs, e = .returned (.slice A' n c') ∧ OwnLo w' w.heap.size A' n c' gs ∧ gs.map key = fs.map key ∧ OwnBs w' w.heap.size gs ∧ Below w.heap.size w w' := by
  obtain ⟨i0, hi, hz0, hz1, hz2⟩ := info_parts loadInfo
  have hm : n ≤ maxLen := by unfold maxLen; omega
  have HL := Lib.hid hl
  have HR := Lib.hid hr
  have HRB := Lib.hid hrb
  have HFN := Lib.hid hfn
  clear hl hr hrb hfn
  go_enter Try.func23, Try.ntmps23
  go_wp2_with (at_make; refine wpList_make_full _ rfl _ _ 23 rfl w.heap.size 32 i0 (.agg #[.slice none 0 0]) 1 Try.underlying23 hi hz0 hz1 _ _ _ _ n rfl rfl rfl rfl ?c1 hm (Nat.le_refl _) ?_)
  case c1 => rw [hz2]; omega
  intro w1 hown hgrow
  have hown' : w1.ownsRow w.heap.size 32 1 (.slice (some ⟨w.heap.size, 0, none⟩) n n) n (part [] n 0) := by
    have e : part [] n 0 = (madeCells #[Value.slice none 0 0] (n * 1)).toList := by
      simp [part, toList_madeCells_one]
    rw [e, Nat.mul_one]; exact hown
  have hb1 : Below w.heap.size w w1 := (Below.refl _ _).grown hgrow (Nat.le_refl _) (by simp)
  have hz1' : w.heap.size < w1.heap.size := by
    rcases hown'.2 with ⟨h, _⟩ | ⟨g, cap, cur, h, _, hg, _⟩
    · cases h
    · injection h with h; injection h with h; injection h with h; subst h; exact (Array.getElem?_eq_some_iff.1 hg).1
  clear hown hgrow
  go_wp2_with fail
  go_loopw [4] (fun i wr => ∃ (k : Nat) (gs : List LoadD), k ≤ n ∧ i = .int .i64 k ∧ wr.ownsRow w.heap.size 32 1 (.slice (some ⟨w.heap.size, 0, none⟩) n n) n (part gs n k) ∧ Hid (gs.map key = (fs.take k).map key) ∧ OwnBs wr (w.heap.size + 1) gs ∧ Below w.heap.size w wr ∧ w.heap.size < wr.heap.size) (fun i _ => n - (intOf i).toNat)
  case atStart => exact ⟨0, [], Nat.zero_le _, rfl, hown', Lib.hid rfl, OwnBs.nil _ _, hb1, hz1'⟩
  case round =>
    obtain ⟨k, gs, hk, rfl, ho, HK, hbs, hb, hzr⟩ := hrel
    clear hown' hb1 hz1'
    have hz : w.heap.size ≤ wr.heap.size := hb.size
    by_cases hlt : k < n
    · have hlt' : k < fs.length := by rw [HL.out]; exact hlt
      obtain ⟨b, o, rfl, hB, hc0⟩ := (HR.out.below (Nat.le_refl _) hb).at_ hlt'
      have HB := Lib.hid hb
      have HBS := Lib.hid hbs
      have hRb := HRB.out _ (List.getElem_mem hlt')
      have HRb := Lib.hid ((hRb.1.below (Nat.le_refl _) hb).more hz)
      have HRl := Lib.hid hRb.2.1
      have hRn := HFN.out _ (List.getElem_mem hlt')
      have HGL := Lib.hid (show gs.length = k by
        have := congrArg List.length HK.out
        rw [List.length_map, List.length_map, List.length_take] at this
        omega)
      have HKN := Lib.hid (show (fs.take (k + 1)).map key = (fs.take k).map key ++ [(fs[k].n, fs[k].bytes)] by
        rw [List.take_succ_eq_append_getElem hlt', List.map_append]; rfl)
      have HO := Lib.hid ho
      clear hb ho hbs hRb
      generalize fs[k].A = x1 at *
      generalize fs[k].n = x2 at *
      generalize fs[k].c = x3 at *
      generalize fs[k].bytes = zs at *
      go_wp2_with fail
      refine (toLoad_any x1 x2 x3 zs _ HRb.out HRl.out hRn).mono ?_
      rintro e v ⟨A2, c2, rfl, ho2, hb1⟩
      have HOv := Lib.hid (own_belowK HO.out (Nat.le_refl _) hb1)
      have HBv := Lib.hid (HB.out.trans (hb1.mono hz))
      have hzv : w.heap.size < v.heap.size := by have := hb1.size; omega
      have HBSv := Lib.hid (OwnBs.snoc (g := ⟨A2, x2, c2, zs⟩) HBS.out hb1 ho2 (Nat.le_refl _) (by omega))
      obtain ⟨u0, hu0⟩ := there HOv.out k hlt
      have hf0 := World.ownsRow.frozenAt (h := HOv.out) k
      have HN := Lib.hid (show (v.setCell ⟨w.heap.size, k, none⟩ (.slice A2 x2 c2)).ownsRow w.heap.size 32 1 (.slice (some ⟨w.heap.size, 0, none⟩) n n) n (part (gs ++ [⟨A2, x2, c2, zs⟩]) n (k + 1)) by
        have h := (World.ownsRow.stored (h := HOv.out) k (.slice A2 x2 c2)).1
        rw [← part_set HGL.out hlt]; exact h)
      have HK2 := Lib.hid (show (gs ++ [(⟨A2, x2, c2, zs⟩ : LoadD)]).map key = (fs.take (k + 1)).map key by rw [List.map_append, HK.out, HKN.out]; rfl)
      clear hb1 ho2
      go_wp2_with fail
      exact ⟨⟨k + 1, gs ++ [⟨A2, x2, c2, zs⟩], by omega, by go_num, HN.out, HK2, HBSv.out.set_ _ _ _ (by omega), HBv.out.setCell (Nat.le_refl _) _, by simp; exact hzv⟩, by simp [intOf]; omega⟩
    · obtain rfl : n = k := by omega
      have e : fs.take n = fs := List.take_of_length_le (by rw [HL.out]; exact Nat.le_refl _)
      have hK := HK.out
      rw [e] at hK
      have HK2 := Lib.hid hK
      have e2 : part gs n n = gs.map sl := by unfold part; simp
      rw [e2] at ho
      have HRF := Lib.hid (show OwnLo wr w.heap.size (some ⟨w.heap.size, 0, none⟩) n n gs from ho)
      have HRBs := Lib.hid (hbs.more (base' := w.heap.size) (by omega))
      have HB := Lib.hid hb
      clear ho hbs hb hK e e2
      go_wp2_with fail
      go_ret
      exact ⟨_, _, gs, rfl, HRF.out, HK2.out, HRBs.out, HB.out⟩

set_option maxRecDepth 100000 in
set_option maxHeartbeats 1600000 in
theorem eqLoad_yes (A A' : Option Addr) (n c c' : Nat) (zs : List Int) (w : World) (hx : Rd w w.heap.size A zs) (hy : Rd w w.heap.size A' zs) (hl : zs.length = n) (hn : n ≤ 1099511627776) :
    Calls Try.prog 56 #[.agg #[.slice A n c], .agg #[.slice A' n c']] w fun e w' => e = .returned (.bool true) ∧ Below w.heap.size w w' := by
  have HX := Lib.hid hx
  have HY := Lib.hid hy
  have HL := Lib.hid hl
  have hb0 := Lib.hid (((Below.refl w.heap.size w).alloc (Nat.le_refl _) (.cells #[.slice A n c] 32)).alloc (by simp) (.cells #[.slice A' n c'] 32))
  clear hx hy hl
  go_enter Try.func56, Try.ntmps56
  go_wp2_with fail
  refine (eqByteS_yes A A' n c n c' zs _ ((HX.out.below (Nat.le_refl _) hb0.out).more (by simp; omega)) ((HY.out.below (Nat.le_refl _) hb0.out).more (by simp; omega)) HL.out HL.out (by omega)).mono ?_
  rintro e v1 ⟨rfl, hb1⟩
  have HB1 := Lib.hid hb1
  clear hb1
  go_wp2_with fail
  go_ret
  exact ⟨rfl, hb0.out.trans (HB1.out.mono (by simp; omega))⟩

set_option maxRecDepth 100000 in
set_option maxHeartbeats 3200000 in
theorem eqLoadS_yes (F G : Option Addr) (n c c' : Nat) (fs gs : List LoadD) (w : World) (hf : RdLo w w.heap.size F fs) (hg : RdLo w w.heap.size G gs) (hl : fs.length = n) (hS : gs.map key = fs.map key) (hbf : ∀ f ∈ fs, Rd w w.heap.size f.A f.bytes ∧ f.bytes.length = f.n) (hbg : ∀ f ∈ gs, Rd w w.heap.size f.A f.bytes ∧ f.bytes.length = f.n) (hn : n ≤ 1099511627776) (hfn : ∀ f ∈ fs, f.n ≤ 1099511627776) :
    Calls Try.prog 24 #[.slice F n c, .slice G n c'] w fun e w' => e = .returned (.bool true) ∧ Below w.heap.size w w' := by
  have HF := Lib.hid hf
  have HG := Lib.hid hg
  have HL := Lib.hid hl
  have HS := Lib.hid hS
  have HBF := Lib.hid hbf
  have HBG := Lib.hid hbg
  have HFN := Lib.hid hfn
  have hnn : (n != n) = false := by simp
  clear hf hg hl hS hbf hbg hfn
  go_enter Try.func24, Try.ntmps24
  go_wp2_with fail
  go_loopw [5] (fun i wr => ∃ k : Nat, k ≤ n ∧ i = .int .i64 k ∧ Below w.heap.size w wr) (fun i _ => n - (intOf i).toNat)
  case atStart => exact ⟨0, Nat.zero_le _, rfl, Below.refl _ _⟩
  case round =>
    obtain ⟨k, hk, rfl, hb⟩ := hrel
    have hz : w.heap.size ≤ wr.heap.size := hb.size
    by_cases hlt : k < n
    · have hlf : k < fs.length := by rw [HL.out]; exact hlt
      have hlg : k < gs.length := by have := key_len HS.out; omega
      obtain ⟨b, o, rfl, hB, hc0⟩ := (HF.out.below (Nat.le_refl _) hb).at_ hlf
      obtain ⟨b', o', rfl, hB', hd0⟩ := (HG.out.below (Nat.le_refl _) hb).at_ hlg
      obtain ⟨s2, s4⟩ := key_at HS.out k hlg hlf
      have r1 := (HBF.out _ (List.getElem_mem hlf))
      have r2 := (HBG.out _ (List.getElem_mem hlg))
      have r3 := HFN.out _ (List.getElem_mem hlf)
      rw [s4] at r2
      rw [s2] at hd0
      have HB := Lib.hid hb
      have R1 := Lib.hid ((r1.1.below (Nat.le_refl _) hb).more hz)
      have R2 := Lib.hid ((r2.1.below (Nat.le_refl _) hb).more hz)
      have R3 := Lib.hid r1.2
      clear s2 s4 r1 r2 hb
      generalize fs[k].A = x1 at *
      generalize fs[k].n = x2 at *
      generalize fs[k].c = x3 at *
      generalize gs[k].A = y1 at *
      generalize gs[k].c = y3 at *
      generalize fs[k].bytes = zs at *
      go_wp2_with fail
      go_region_with ((go_at_call 56; refine (eqLoad_yes x1 y1 x2 x3 y3 zs _ ?_ ?_ R3.out r3).mono ?_; exact R1.out; exact R2.out; rintro e v1 ⟨rfl, hb1'⟩; have hb1 : Below wr.heap.size wr v1 := undrew hb1'; clear hb1'))
      all_goals
        have HB1 := Lib.hid (HB.out.trans (hb1.mono hz))
        clear hb1
        go_wp2_with fail
        exact ⟨⟨k + 1, by omega, by go_num, HB1.out⟩, by simp [intOf]; omega⟩
    · obtain rfl : n = k := by omega
      go_wp2_with fail
      go_ret
      exact ⟨rfl, hb⟩
end Go.Proofs.Yteiojpglhmikoaa.Loads

