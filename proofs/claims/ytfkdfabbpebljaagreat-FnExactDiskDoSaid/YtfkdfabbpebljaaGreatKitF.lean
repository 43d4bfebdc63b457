/- Texts that lay in modules of their own: DiskLawE, RisMath, CrashLem, DoStep, StepBody, FileWith, ExecS. -/
import Derived.Test.YtfkdfabbpebljaaGreatKitB
import Derived.Test.YtfkdfabbpebljaaGreatKitE
import Derived.Test.YtfkdfabbpebljaaGreatEqDisk
import Derived.Test.YtfkdfabbpebljaaGreatOnly
import Derived.Test.YtfkdfabbpebljaaGreatKitC
import Derived.Deep.RegionWith
import Derived.Deep.RegionLaw
import Derived.Deep.Cut
import Derived.IntWalk
import Derived.StillTailTactics
import Derived.Outline
namespace Go.Proofs.YtfkdfabbpebljaaGreat.DOk
open Go.RowKit Go.Proofs.YtfkdfabbpebljaaGreat.Bytes Go.Proofs.YtfkdfabbpebljaaGreat.Rows_
set_option linter.unusedVariables false
section
variable {w w' : World} {base : Nat} {F : Option Addr} {nf cf : Nat} {gs : List FileD} {K : Option Addr} {nk ck : Nat} {ks : List LinkD} {T : Option Addr} {nt ct : Nat} {ts : List TurnD}
theorem OwnD.lenF (h : OwnD w base F nf cf gs K nk ck ks T nt ct ts) : gs.length = nf := by
  have h1 := h.f.1
  rw [flat_len 3 _ (file_len gs), List.length_map] at h1; omega
theorem OwnD.lenL (h : OwnD w base F nf cf gs K nk ck ks T nt ct ts) : ks.length = nk := by
  have h1 := h.l.1
  rw [flat_len 2 _ (link_len ks), List.length_map] at h1; omega
theorem OwnD.lenT (h : OwnD w base F nf cf gs K nk ck ks T nt ct ts) : ts.length = nt := by
  have h1 := h.t.1
  rw [flat_len 4 _ (turn_len ts), List.length_map] at h1; omega
theorem OwnD.only {S : Nat → Prop} (h : OwnD w base F nf cf gs K nk ck ks T nt ct ts) (on : Only S w w') (hd : ∀ i, SD F nf cf gs K nk ck T nt ct i → ¬ S i) : OwnD w' base F nf cf gs K nk ck ks T nt ct ts :=
  ⟨Only.own h.f on (fun g hg => hd g (.inl (.inl hg))), ⟨fun f hf => Only.own (h.b.1 f hf) on (fun g hg => hd g (.inl (.inr ⟨f, hf, hg⟩))), h.b.2⟩, Only.own h.l on (fun g hg => hd g (.inr (.inl hg))), Only.own h.t on (fun g hg => hd g (.inr (.inr hg)))⟩
end
theorem Only.below_ {S : Nat → Prop} {a w w' : World} {B : Nat} (h : Only S w w') (hb : Below B a w) (hB : B ≤ w.heap.size) (hS : ∀ i, S i → B ≤ i) : Below B a w' :=
  ⟨h.os.trans hb.os, h.tape.trans hb.tape, h.output.trans hb.output, Nat.le_trans hb.size h.size, fun i hi => (h.block i (Nat.lt_of_lt_of_le hi hB) fun hs => by have := hS i hs; omega).trans (hb.block i hi)⟩
theorem Box6.only {S : Nat → Prop} {w w' : World} {b : Nat} {x0 x1 x2 x3 x4 x5 : Value} (h : Box6 w b x0 x1 x2 x3 x4 x5) (on : Only S w w') (hn : ¬ S b) : Box6 w' b x0 x1 x2 x3 x4 x5 :=
  ⟨on.cell h.1 hn, on.cell h.2.1 hn, on.cell h.2.2.1 hn, on.cell h.2.2.2.1 hn, on.cell h.2.2.2.2.1 hn, on.cell h.2.2.2.2.2 hn⟩
theorem eqD {w : World} {base1 base2 : Nat} (room fuse next : Int) {F G : Option Addr} {nf cf cg : Nat} {K L : Option Addr} {nk ck cl : Nat} {T U : Option Addr} {nt ct cu : Nat} {fs gs : List FileD} {ks : List LinkD} {ts : List TurnD}
    (h1 : OwnD w base1 F nf cf fs K nk ck ks T nt ct ts) (h2 : OwnD w base2 G nf cg gs L nk cl ks U nt cu ts) (hk : gs.map keyF = fs.map keyF) (hu : usedD fs + nf + nk + nt ≤ 1099511627776) :
    Calls Tryz.prog 10 #[.agg #[.int .i64 room, .int .i64 fuse, .int .i64 next, .slice F nf cf, .slice K nk ck, .slice T nt ct], .agg #[.int .i64 room, .int .i64 fuse, .int .i64 next, .slice G nf cg, .slice L nk cl, .slice U nt cu]] w fun e w' => e = .returned (.bool true) ∧ Below w.heap.size w w' :=
  eqDisk_yes room fuse next F G nf cf cg K L nk ck cl T U nt ct cu fs gs ks ts w h1.f.rd h2.f.rd h1.lenF (same_of_keys hk) h1.b.rdB h2.b.rdB (by omega) (fun f hf => by have := n_used hf; omega) h1.l.rd h2.l.rd h1.lenL (by omega) h1.t.rd h2.t.rd h1.lenT (by omega)
end Go.Proofs.YtfkdfabbpebljaaGreat.DOk
namespace Go.Proofs.YtfkdfabbpebljaaGreat.DOk
open Go.RowKit Go.Proofs.YtfkdfabbpebljaaGreat.Bytes Go.Proofs.YtfkdfabbpebljaaGreat.Rows_
set_option linter.unusedVariables false

theorem ris_less {l : List LinkD} (h : Ris l) (s : List UInt8) : Ris (lessD l s) := List.Pairwise.filter _ h
theorem gtB_iff (a b : List UInt8) : gtB a b = Op.bytesLess b a := by unfold gtB; rw [less_total]; simp
theorem ris_fold (s : ByteArray) (id : Int) : ∀ (r acc : List LinkD) (d : Bool), Ris (acc ++ r) → (d = false → (∀ x ∈ acc, Op.bytesLess x.1.toList s.toList = true) ∧ ∀ x ∈ r, x.1.toList ≠ s.toList) →
    Ris (if (r.foldl (withStep s id) (acc, d)).2 = true then (r.foldl (withStep s id) (acc, d)).1 else (r.foldl (withStep s id) (acc, d)).1 ++ [(s, id)])
  | [], acc, d, h, h2 => by
    rw [List.append_nil] at h
    cases d
    · rw [List.foldl_nil, if_neg (by simp)]
      exact List.pairwise_append.2 ⟨h, List.pairwise_singleton _ _, fun x hx y hy => by rw [List.mem_singleton] at hy; subst hy; exact (h2 rfl).1 x hx⟩
    · rw [List.foldl_nil, if_pos rfl]; exact h
  | x :: r, acc, d, h, h2 => by
    rw [List.foldl_cons]
    have e : acc ++ x :: r = acc ++ [x] ++ r := by simp
    cases d
    · obtain ⟨ha, hr⟩ := h2 rfl
      cases hg : gtB x.1.toList s.toList
      · have hst : withStep s id (acc, false) x = (acc ++ [x], false) := by unfold withStep; rw [hg]; rfl
        rw [hst]
        refine ris_fold s id r _ _ (by rw [← e]; exact h) (fun _ => ⟨fun y hy => ?_, fun y hy => hr y (List.mem_cons_of_mem _ hy)⟩)
        rcases List.mem_append.1 hy with hy | hy
        · exact ha y hy
        · rw [List.mem_singleton] at hy
          subst hy
          have hne := hr y List.mem_cons_self
          rw [gtB_iff] at hg
          cases hl : Op.bytesLess y.1.toList s.toList
          · exfalso
            have := less_total y.1.toList s.toList
            rw [hl, hg] at this
            simp at this
            exact hne this
          · rfl
      · have hst : withStep s id (acc, false) x = (acc ++ [(s, id)] ++ [x], true) := by unfold withStep; rw [hg]; rfl
        rw [hst]
        rw [gtB_iff] at hg
        refine ris_fold s id r _ _ ?_ (fun h => by cases h)
        obtain ⟨p1, p2, p3⟩ := List.pairwise_append.1 h
        obtain ⟨p4, p5⟩ := List.pairwise_cons.1 p2
        rw [List.append_assoc, List.append_assoc]
        refine List.pairwise_append.2 ⟨p1, ?_, fun a hA b hb => ?_⟩
        · refine List.pairwise_cons.2 ⟨fun b hb => ?_, by simpa using p2⟩
          have hb' : b ∈ x :: r := by simpa using hb
          rcases List.mem_cons.1 hb' with rfl | hb'
          · exact hg
          · exact less_trans _ _ _ hg (p4 b hb')
        · rcases List.mem_cons.1 (by simpa using hb : b ∈ (s, id) :: x :: r) with rfl | hb'
          · exact ha a hA
          · exact p3 a hA b hb'
    · have hst : withStep s id (acc, true) x = (acc ++ [x], true) := by unfold withStep; simp
      rw [hst]
      exact ris_fold s id r _ _ (by rw [← e]; exact h) (fun h => by cases h)
theorem ris_with {l : List LinkD} (h : Ris l) (s : ByteArray) (id : Int) (hn : ¬ InN l s.toList) : Ris (withD l s id) :=
  ris_fold s id l [] false h (fun _ => ⟨(fun x hx => by cases hx), fun x hx e => hn ⟨x, hx, e⟩⟩)
theorem ris_turn {l : List LinkD} (h : Ris l) (hp : ∀ x ∈ l, 0 < x.2) (t : TurnD) (hok : turnOkS l t = true) : Ris (turnD l t) := by
  have hfp := find_pos l t.name.toList hp
  unfold turnOkS tokS at hok
  unfold turnD
  by_cases k1 : t.kind = 1
  · simp only [k1, if_true, Bool.and_eq_true, decide_eq_true_iff, Bool.not_eq_true'] at hok
    rw [if_pos k1]
    refine ris_with h _ _ (fun hin => ?_)
    have := hfp.2 hin
    have h0 := hok.2.2
    simp at h0
    omega
  · rw [if_neg k1]
    split
    · refine ris_with (ris_less (ris_less h _) _) _ _ (fun hin => ?_)
      obtain ⟨x, hx, e⟩ := hin
      exact ((mem_less _ _ _).1 hx).2 e
    · exact ris_less h _
theorem ris_dir (ks : List LinkD) (ts : List TurnD) (hk : ∀ x ∈ ks, 0 < x.2) (hr : Ris ks) (ha : ∀ j h, TurnAt ks ts j h) : ∀ j, j ≤ ts.length → Ris (dirAt ks (ts.take j)) := by
  intro j
  induction j with
  | zero => intro _; exact hr
  | succ j ih =>
    intro hj
    have h := ih (by omega)
    have h2 := (dir_all ks ts hk hr ha j (by omega)).1
    rw [dirAt_snoc ks ts j hj]
    exact ris_turn h h2.2.2 _ (ha j hj)
theorem okS_ris {room fuse next : Int} {fs : List FileD} {ks : List LinkD} {ts : List TurnD} (h : OkS room fuse next fs ks ts) : Ris (dirAt ks ts) := by
  obtain ⟨_, _, _, _, _, hf, hk, hl, hid, ht⟩ := h
  have hsub : ∀ z ∈ idsD ks ts, z ∈ fidsD fs := by
    intro z hz
    obtain ⟨j, hj, rfl⟩ := List.getElem_of_mem hz
    exact (hasI_iff _ _).1 (hid j hj).2
  have hpos : ∀ x ∈ ks, 0 < x.2 := fun x hx => fids_pos next fs hf _ (hsub _ (List.mem_append_left _ (List.mem_map.2 ⟨x, hx, rfl⟩)))
  have := ris_dir ks ts hpos (kept_ris ks hk) ht ts.length (Nat.le_refl _)
  rwa [List.take_length] at this
end Go.Proofs.YtfkdfabbpebljaaGreat.DOk
namespace Go.Proofs.YtfkdfabbpebljaaGreat.DOk
open Go.RowKit Go.Proofs.YtfkdfabbpebljaaGreat.Bytes Go.Proofs.YtfkdfabbpebljaaGreat.Rows_ Go.Maps
set_option linter.unusedVariables false

theorem RdT.take {w : World} {B : Nat} {A : Option Addr} {ts : List TurnD} (h : RdT w B A ts) (m : Nat) : RdT w B A (ts.take m) := by
  intro hn
  have hn' : 0 < (ts.map turnR).length := by rw [List.length_map, List.length_take] at hn; rw [List.length_map]; omega
  obtain ⟨b, o, e, hlt, hc⟩ := h hn'
  refine ⟨b, o, e, hlt, fun i r hr => hc i r ?_⟩
  rw [List.map_take, List.getElem?_take] at hr
  split at hr
  · exact hr
  · cases hr
/-- of a good disk, what its directory after the first turns gives -/
theorem okS_partsN {room fuse next : Int} {fs : List FileD} {ks : List LinkD} {ts : List TurnD} (h : OkS room fuse next fs ks ts) (m : Nat) (hm : m ≤ ts.length) :
    Same (dirAt ks (ts.take m)) (dirM ks (ts.take m)) ∧ Val (dirAt ks (ts.take m)) (dirM ks (ts.take m)) ∧ Ris (dirAt ks (ts.take m)) ∧ (∀ x ∈ dirAt ks (ts.take m), x.2 ∈ fidsD fs) := by
  obtain ⟨_, _, _, _, _, hf, hk, hl, hid, ht⟩ := h
  have hsub : ∀ z ∈ idsD ks ts, z ∈ fidsD fs := by
    intro z hz
    obtain ⟨j, hj, rfl⟩ := List.getElem_of_mem hz
    exact (hasI_iff _ _).1 (hid j hj).2
  have hpos : ∀ x ∈ ks, 0 < x.2 := fun x hx => fids_pos next fs hf _ (hsub _ (List.mem_append_left _ (List.mem_map.2 ⟨x, hx, rfl⟩)))
  have hall := dir_all ks ts hpos (kept_ris ks hk) ht
  have h1 := hall m hm
  exact ⟨h1.1, h1.2, ris_dir ks ts hpos (kept_ris ks hk) ht m hm, fun x hx => hsub _ (ids_dir ks ts hpos ht (fun j hj => (hall j hj).1) m hm x hx)⟩
theorem okS_safe {room fuse next : Int} {fs : List FileD} {ks : List LinkD} {ts : List TurnD} (h : OkS room fuse next fs ks ts) : ∀ f ∈ fs, Safe f := by
  obtain ⟨_, _, _, _, _, hf, _⟩ := h
  intro f hm
  obtain ⟨j, hj, rfl⟩ := List.getElem_of_mem hm
  obtain ⟨_, _, _, h4, h5⟩ := hf j hj
  exact ⟨h4, h5⟩
theorem keys_safe {gs fs : List FileD} (hk : gs.map keyF = fs.map keyF) (h : ∀ f ∈ fs, Safe f) : ∀ f ∈ gs, Safe f :=
  keys_mem hk (P := Safe) (fun f g e h => by unfold keyF at e; simp only [Prod.mk.injEq] at e; unfold Safe at h ⊢; rw [e.2.1, e.2.2.1]; exact h) h
theorem blk_any (A : Option Addr) (n n' c c' : Nat) : (Value.slice A n c).ownBlock = (Value.slice A n' c').ownBlock := by cases A <;> rfl
theorem bodies_swap {w : World} {base : Nat} {pre post : List FileD} {g g' : FileD} (hg : blkF g' = blkF g) (h : OwnBs w base (pre ++ [g] ++ post)) (ho : Own w base g'.A g'.n g'.c g'.bytes) : OwnBs w base (pre ++ [g'] ++ post) := by
  obtain ⟨h1, h2⟩ := h
  refine ⟨fun x hx => ?_, ?_⟩
  · rcases List.mem_append.1 hx with hx | hx
    · rcases List.mem_append.1 hx with hx | hx
      · exact h1 x (by simp [hx])
      · rw [List.mem_singleton] at hx; subst hx; exact ho
    · exact h1 x (by simp [hx])
  · rw [sep_iff] at h2 ⊢
    rw [List.map_append, List.map_append] at h2 ⊢
    simp only [List.map_cons, List.map_nil] at h2 ⊢
    rw [hg]; exact h2
theorem OwnBs.cell_ {w : World} {base g j : Nat} {l : List FileD} {v : Value} (h : OwnBs w base l) (hg : ∀ f ∈ l, blkF f ≠ some g) : OwnBs (w.setCell ⟨g, j, none⟩ v) base l :=
  ⟨fun f hf => own_setNe (h.1 f hf) g j v (hg f hf), h.2⟩
theorem kAt_pos {cs : List Int} {k : Nat} (h : 0 < cs.length) : kAt cs k = cs[k % cs.length]'(Nat.mod_lt _ h) := by
  unfold kAt; rw [if_neg (by omega), List.getD_eq_getElem?_getD, List.getElem?_eq_getElem (Nat.mod_lt _ h)]; rfl
theorem kAt_at {cs : List Int} {k nc : Nat} (hl : cs.length = nc) (h : 0 < nc) (hr : k % nc < cs.length) : cs[k % nc] = kAt cs k := by subst hl; rw [kAt_pos h]
theorem kAt_zero {cs : List Int} {k : Nat} (h : cs.length = 0) : kAt cs k = 0 := if_pos h
theorem box_ne_row {w : World} {b base K n : Nat} {cs : Array Value} {E : TypeId} {v : Value} {xs : List Value} (h : BoxW w b cs) (hr : w.ownsRow base E K v n xs) (hE : 36 ≠ E) : v.ownBlock ≠ some b := by
  intro e
  rcases hr.2 with ⟨rfl, _⟩ | ⟨g, _, _, rfl, _, hg, _⟩
  · cases e
  · simp only [Value.ownBlock, Option.some.injEq] at e
    subst e
    unfold BoxW at h
    rw [h] at hg
    simp only [Option.some.injEq, Obj.cells.injEq] at hg
    exact hE hg.2.1
end Go.Proofs.YtfkdfabbpebljaaGreat.DOk
namespace Go.Proofs.YtfkdfabbpebljaaGreat.DOk
open Go.RowKit Go.Proofs.YtfkdfabbpebljaaGreat.Bytes Go.Proofs.YtfkdfabbpebljaaGreat.Rows_
set_option linter.unusedVariables false

theorem append_turn {wr : World} {ops : Array Oper} {rest : List Oper} {o : Oper} {a : Act} {Q : Exit → Act → World → Prop} (hgd : o.guard = none) (s x : Operand)
    (ho : o.op = .call { callee := .builtin .append, args := #[s, x], argTypes := #[34, 34] })
    {base n c : Nat} {A : Option Addr} {gs : List TurnD} {g : TurnD} (hs : a.eval s = .slice A n c) (H : Nat) (hH : wr.heap.size = H) (hx : a.eval x = .slice (some ⟨H, 0, none⟩) 1 1)
    (hown : OwnT wr base A n c gs) (hn : n ≤ 1000000000) (hbase : base ≤ wr.heap.size)
    (h : ∀ A' c' w', OwnT w' base A' (n + 1) c' (gs ++ [g]) → Below base wr w' → wr.grownBy w' (Value.slice A n c).ownBlock → wpList Tryz.prog ops Q rest (a.put o.dst (.slice A' (n + 1) c')) w') :
    wpList Tryz.prog ops Q (o :: rest) a (wr.alloc (.cells #[.int .i64 g.kind, .string g.name, .string g.to_, .int .i64 g.id] 60)) := by
  subst hH
  obtain ⟨i0, hi, hz0, hz1, hz2⟩ := info_parts turnInfo
  refine wpList_append_own _ hgd s x 34 ho base 60 i0 (.agg #[.int .i64 0, .string ByteArray.empty, .string ByteArray.empty, .int .i64 0]) 4 48 Tryz.underlying34 hi hz0 hz1 hz2 rfl (by decide) _ _ _ hs (World.ownsRow.alloc hown _) ⟨wr.heap.size, 0, none⟩ 1 1 [.int .i64 g.kind, .string g.name, .string g.to_, .int .i64 g.id] hx rfl
    (World.news_of_block (cs := #[.int .i64 g.kind, .string g.name, .string g.to_, .int .i64 g.id]) (t := 60) (fr := (0, 0)) (heap_alloc_new wr _)) (by intro u hu; simp at hu; rcases hu with rfl | rfl | rfl | rfl <;> rfl) ?_ ?_ ?_ ?_
  · unfold maxLen; omega
  · omega
  · simp; omega
  · intro v' w' hown' hgrow _
    have e : (gs.map turnR).flatten ++ [.int .i64 g.kind, .string g.name, .string g.to_, .int .i64 g.id] = ((gs ++ [g]).map turnR).flatten := by simp [turnR]
    rw [e] at hown'
    obtain ⟨A', c', rfl⟩ := own_shapeK hown'
    exact h A' c' w' hown' (((Below.refl _ _).alloc hbase _).grown hgrow (by simp; omega) (own_blockK hown)) (grown_trans (World.grownBy_alloc wr _ _) hgrow)

theorem step_turn {wr : World} {ops : Array Oper} {o : Oper} {a : Act} {K : Act → World → Prop} {Q : Exit → Act → World → Prop} {E : Prop} (hgd : o.guard = none) (s x : Operand)
    (ho : o.op = .call { callee := .builtin .append, args := #[s, x], argTypes := #[34, 34] })
    {base n c : Nat} {A : Option Addr} {gs : List TurnD} {g : TurnD} (hs : a.eval s = .slice A n c) (H : Nat) (hH : wr.heap.size = H) (hx : a.eval x = .slice (some ⟨H, 0, none⟩) 1 1)
    (hown : OwnT wr base A n c gs) (hn : n ≤ 1000000000) (hbase : base ≤ wr.heap.size)
    (h : ∀ A' c' w', OwnT w' base A' (n + 1) c' (gs ++ [g]) → Below base wr w' → wr.grownBy w' (Value.slice A n c).ownBlock → K (a.put o.dst (.slice A' (n + 1) c')) w') :
    if Region.wanted o (yielded ops a.tmps) = true then Oper.wp Tryz.prog o a (wr.alloc (.cells #[.int .i64 g.kind, .string g.name, .string g.to_, .int .i64 g.id] 60)) K Q else E := by
  have hw : Region.wanted o (yielded ops a.tmps) = true := by simp [Region.wanted, hgd]
  rw [if_pos hw]
  subst hH
  obtain ⟨i0, hi, hz0, hz1, hz2⟩ := info_parts turnInfo
  refine wp_append_own _ s x 34 ho base 60 i0 (.agg #[.int .i64 0, .string ByteArray.empty, .string ByteArray.empty, .int .i64 0]) 4 48 Tryz.underlying34 hi hz0 hz1 hz2 rfl (by decide) _ _ _ hs (World.ownsRow.alloc hown _) ⟨wr.heap.size, 0, none⟩ 1 1 [.int .i64 g.kind, .string g.name, .string g.to_, .int .i64 g.id] hx rfl
    (World.news_of_block (cs := #[.int .i64 g.kind, .string g.name, .string g.to_, .int .i64 g.id]) (t := 60) (fr := (0, 0)) (heap_alloc_new wr _)) (by intro u hu; simp at hu; rcases hu with rfl | rfl | rfl | rfl <;> rfl) ?_ ?_ ?_ ?_
  · unfold maxLen; omega
  · omega
  · simp; omega
  · intro v' w' hown' hgrow _
    have e : (gs.map turnR).flatten ++ [.int .i64 g.kind, .string g.name, .string g.to_, .int .i64 g.id] = ((gs ++ [g]).map turnR).flatten := by simp [turnR]
    rw [e] at hown'
    obtain ⟨A', c', rfl⟩ := own_shapeK hown'
    exact h A' c' w' hown' (((Below.refl _ _).alloc hbase _).grown hgrow (by simp; omega) (own_blockK hown)) (grown_trans (World.grownBy_alloc wr _ _) hgrow)
theorem BoxW.set2 {w : World} {b : Nat} {x0 x1 x2 x3 x4 x5 : Value} (h : BoxW w b #[x0, x1, x2, x3, x4, x5]) (v : Value) : BoxW (w.setCell ⟨b, 2, none⟩ v) b #[x0, x1, v, x3, x4, x5] := by
  unfold BoxW at h ⊢; simp [World.setCell, Array.getElem?_modify, h]
theorem BoxW.only {S : Nat → Prop} {w w' : World} {b : Nat} {cs : Array Value} (h : BoxW w b cs) (on : Only S w w') (hn : ¬ S b) : BoxW w' b cs := by
  have hl := h.lt
  unfold BoxW at h ⊢; rw [on.block b hl hn]; exact h

section
variable {w w1 : World} {b base : Nat} {x0 x1 x2 x3 x4 x5 : Value} {cs : Array Value} {F : Option Addr} {nf cf : Nat} {gs : List FileD} {K : Option Addr} {nk ck : Nat} {ks : List LinkD} {T : Option Addr} {nt ct : Nat} {ts : List TurnD}
/-- the rows of a disk lie on other blocks than any disk by value -/
theorem ownD_box (hb : BoxW w b cs) (ho : OwnD w base F nf cf gs K nk ck ks T nt ct ts) : ∀ i, SD F nf cf gs K nk ck T nt ct i → i ≠ b := by
  intro i hi e
  subst e
  rcases hi with (h | ⟨f, hf, h⟩) | h | h
  · exact box_ne_row hb ho.f (by decide) h
  · exact box_ne_row hb (ho.b.1 f hf) (by decide) h
  · exact box_ne_row hb ho.l (by decide) h
  · exact box_ne_row hb ho.t (by decide) h

/-- a file more -/
theorem ownD_appF {F' : Option Addr} {cf' : Nat} {g : FileD} (hb : BoxW w b #[x0, x1, x2, .slice F nf cf, x4, x5]) (ho : OwnD w base F nf cf gs K nk ck ks T nt ct ts) (hF : OwnF w1 base F' (nf + 1) cf' (gs ++ [g])) (hg : w.grownBy w1 (Value.slice F nf cf).ownBlock) (h0 : g.A = none) (h1 : g.n = 0) (h2 : g.c = 0) (h3 : g.bytes = []) :
    BoxW (w1.setCell ⟨b, 3, none⟩ (.slice F' (nf + 1) cf')) b #[x0, x1, x2, .slice F' (nf + 1) cf', x4, x5] ∧ OwnD (w1.setCell ⟨b, 3, none⟩ (.slice F' (nf + 1) cf')) base F' (nf + 1) cf' (gs ++ [g]) K nk ck ks T nt ct ts := by
  have on : Only (fun i => (Value.slice F nf cf).ownBlock = some i) w w1 := Only.grown hg fun i hi => hi
  have hb1 : BoxW w1 b #[x0, x1, x2, .slice F nf cf, x4, x5] := hb.only on (fun e => box_ne_row hb ho.f (by decide) e)
  have hB : OwnBs w1 base (gs ++ [g]) := by
    refine ⟨fun f hf => ?_, List.pairwise_append.2 ⟨ho.b.2, List.pairwise_singleton _ _, fun a ha c hc => ?_⟩⟩
    · rcases List.mem_append.1 hf with hf | hf
      · exact Only.own (ho.b.1 f hf) on (fun i hi e => own_ne (ho.b.1 f hf) ho.f (by decide) i hi e)
      · rw [List.mem_singleton] at hf; subst hf
        show Own w1 base f.A f.n f.c f.bytes
        rw [h0, h1, h2, h3]; exact World.ownsRow_nil _ _ _ _
    · rw [List.mem_singleton] at hc; subst hc
      intro i hi e
      rw [h0] at e; cases e
  have ho1 : OwnD w1 base F' (nf + 1) cf' (gs ++ [g]) K nk ck ks T nt ct ts := ⟨hF, hB, Only.own ho.l on (fun i hi e => own_ne ho.l ho.f (by decide) i hi e), Only.own ho.t on (fun i hi e => own_ne ho.t ho.f (by decide) i hi e)⟩
  exact ⟨hb1.set3 _, ho1.set (ownD_box hb1 ho1)⟩

/-- a turn more -/
theorem ownD_appT {T' : Option Addr} {ct' : Nat} {g : TurnD} (hb : BoxW w b #[x0, x1, x2, x3, x4, .slice T nt ct]) (ho : OwnD w base F nf cf gs K nk ck ks T nt ct ts) (hT : OwnT w1 base T' (nt + 1) ct' (ts ++ [g])) (hg : w.grownBy w1 (Value.slice T nt ct).ownBlock) :
    BoxW (w1.setCell ⟨b, 5, none⟩ (.slice T' (nt + 1) ct')) b #[x0, x1, x2, x3, x4, .slice T' (nt + 1) ct'] ∧ OwnD (w1.setCell ⟨b, 5, none⟩ (.slice T' (nt + 1) ct')) base F nf cf gs K nk ck ks T' (nt + 1) ct' (ts ++ [g]) := by
  have on : Only (fun i => (Value.slice T nt ct).ownBlock = some i) w w1 := Only.grown hg fun i hi => hi
  have hb1 : BoxW w1 b #[x0, x1, x2, x3, x4, .slice T nt ct] := hb.only on (fun e => box_ne_row hb ho.t (by decide) e)
  have hB : OwnBs w1 base gs := ⟨fun f hf => Only.own (ho.b.1 f hf) on (fun i hi e => own_ne (ho.b.1 f hf) ho.t (by decide) i hi e), ho.b.2⟩
  have ho1 : OwnD w1 base F nf cf gs K nk ck ks T' (nt + 1) ct' (ts ++ [g]) := ⟨Only.own ho.f on (fun i hi e => own_ne ho.f ho.t (by decide) i hi e), hB, Only.own ho.l on (fun i hi e => own_ne ho.l ho.t (by decide) i hi e), hT⟩
  exact ⟨hb1.set5 _, ho1.set (ownD_box hb1 ho1)⟩

/-- one cell of the disk by value -/
theorem ownD_set1 (hb : BoxW w b #[x0, x1, x2, x3, x4, x5]) (ho : OwnD w base F nf cf gs K nk ck ks T nt ct ts) (v : Value) : BoxW (w.setCell ⟨b, 1, none⟩ v) b #[x0, v, x2, x3, x4, x5] ∧ OwnD (w.setCell ⟨b, 1, none⟩ v) base F nf cf gs K nk ck ks T nt ct ts := ⟨hb.set1 _, ho.set (ownD_box hb ho)⟩
theorem ownD_set2 (hb : BoxW w b #[x0, x1, x2, x3, x4, x5]) (ho : OwnD w base F nf cf gs K nk ck ks T nt ct ts) (v : Value) : BoxW (w.setCell ⟨b, 2, none⟩ v) b #[x0, x1, v, x3, x4, x5] ∧ OwnD (w.setCell ⟨b, 2, none⟩ v) base F nf cf gs K nk ck ks T nt ct ts := ⟨hb.set2 _, ho.set (ownD_box hb ho)⟩
end

section
variable {w w1 : World} {b base g nf cf : Nat} {cs : Array Value} {pre post : List FileD} {f : FileD} {K : Option Addr} {nk ck : Nat} {ks : List LinkD} {T : Option Addr} {nt ct : Nat} {ts : List TurnD}
/-- the cells of a file in its row -/
theorem file_cell (ho : OwnF w base (some ⟨g, 0, none⟩) nf cf (pre ++ [f] ++ post)) (k : Nat) (hk : pre.length = k) (j : Nat) (hj : j < 3) (v : Value) (hv : (fileR f)[j]? = some v) : w.cell? ⟨g, k * 3 + j, none⟩ = some v := by
  have hr3 : ∀ r ∈ (pre ++ [f] ++ post).map fileR, r.length = 3 := file_len _
  have hn : (pre ++ [f] ++ post).length = nf := by have := ho.1; rw [flat_len 3 _ hr3, List.length_map] at this; omega
  have hat : ((pre ++ [f] ++ post).map fileR)[k]? = some (fileR f) := by
    rw [List.getElem?_map, List.append_assoc, List.getElem?_append_right (by omega), hk]; simp
  rw [World.ownsRow.cellAt (h := ho) (k * 3 + j) (by simp at hn; omega)]
  exact flat_at 3 _ hr3 k _ hat j _ hv
/-- its safe length changed -/
theorem ownD_safe (hb : BoxW w b cs) (ho : OwnD w base (some ⟨g, 0, none⟩) nf cf (pre ++ [f] ++ post) K nk ck ks T nt ct ts) (k : Nat) (hk : pre.length = k) (s : Int) :
    BoxW (w.setCell ⟨g, k * 3 + 2, none⟩ (.int .i64 s)) b cs ∧ OwnD (w.setCell ⟨g, k * 3 + 2, none⟩ (.int .i64 s)) base (some ⟨g, 0, none⟩) nf cf (pre ++ [(⟨f.id, f.A, f.n, f.c, s, f.bytes⟩ : FileD)] ++ post) K nk ck ks T nt ct ts := by
  have hgb : b ≠ g := fun e => box_ne_row hb ho.f (by decide) (by rw [e]; rfl)
  have hblk : ∀ x ∈ pre ++ [f] ++ post, blkF x ≠ some g := fun x hx e => own_ne (ho.b.1 x hx) ho.f (by decide) g e rfl
  refine ⟨hb.other hgb, ⟨?_, ?_, own_setNe ho.l g _ _ (fun e => own_ne ho.l ho.f (by decide) g e rfl), own_setNe ho.t g _ _ (fun e => own_ne ho.t ho.f (by decide) g e rfl)⟩⟩
  · have h := ho.f
    unfold OwnF at h ⊢
    rw [List.map_append, List.map_append] at h ⊢
    have := rowJ (K := 3) (z := fileR f) rfl (file_len _) k (by rw [List.length_map]; exact hk) 2 (by decide) (.int .i64 s) h
    exact this
  · exact OwnBs.cell_ (show OwnBs w base (pre ++ [(⟨f.id, f.A, f.n, f.c, s, f.bytes⟩ : FileD)] ++ post) from bodies_swap (g := f) rfl ho.b (ho.b.1 f (by simp))) (fun x hx => by
      rcases List.mem_append.1 hx with hx | hx
      · rcases List.mem_append.1 hx with hx | hx
        · exact hblk x (by simp [hx])
        · rw [List.mem_singleton] at hx; subst hx; exact hblk f (by simp)
      · exact hblk x (by simp [hx]))
/-- its body grown: 'w1' is the world in which the new body lies -/
theorem ownD_body {A' : Option Addr} {n' c' : Nat} {zs : List Int} (hb : BoxW w b cs) (ho : OwnD w base (some ⟨g, 0, none⟩) nf cf (pre ++ [f] ++ post) K nk ck ks T nt ct ts) (k : Nat) (hk : pre.length = k)
    (hB : Own w1 base A' n' c' zs) (hg : w.grownBy w1 (Value.slice f.A f.n f.c).ownBlock) (hnew : ∀ i, (Value.slice A' n' c').ownBlock = some i → (Value.slice f.A f.n f.c).ownBlock = some i ∨ w.heap.size ≤ i) :
    BoxW (w1.setCell ⟨g, k * 3 + 1, none⟩ (.slice A' n' c')) b cs ∧ OwnD (w1.setCell ⟨g, k * 3 + 1, none⟩ (.slice A' n' c')) base (some ⟨g, 0, none⟩) nf cf (pre ++ [(⟨f.id, A', n', c', f.safe, zs⟩ : FileD)] ++ post) K nk ck ks T nt ct ts := by
  have on : Only (fun i => (Value.slice f.A f.n f.c).ownBlock = some i) w w1 := Only.grown hg fun i hi => hi
  have hfm : f ∈ pre ++ [f] ++ post := by simp
  have hgb : b ≠ g := fun e => box_ne_row hb ho.f (by decide) (by rw [e]; rfl)
  have hb1 : BoxW w1 b cs := hb.only on (fun e => box_ne_row hb (ho.b.1 f hfm) (by decide) e)
  have hF1 : OwnF w1 base (some ⟨g, 0, none⟩) nf cf (pre ++ [f] ++ post) := Only.own ho.f on (fun i hi e => own_ne ho.f (ho.b.1 f hfm) (by decide) i hi e)
  have hL1 : OwnL w1 base K nk ck ks := Only.own ho.l on (fun i hi e => own_ne ho.l (ho.b.1 f hfm) (by decide) i hi e)
  have hT1 : OwnT w1 base T nt ct ts := Only.own ho.t on (fun i hi e => own_ne ho.t (ho.b.1 f hfm) (by decide) i hi e)
  have hsep := ho.b.2
  rw [List.append_assoc, List.pairwise_append] at hsep
  obtain ⟨s1, s2, s3⟩ := hsep
  rw [List.singleton_append, List.pairwise_cons] at s2
  have hpre : ∀ x ∈ pre, ∀ i, blkF x = some i → (Value.slice f.A f.n f.c).ownBlock ≠ some i := fun x hx i hi => s3 x hx f (by simp) i hi
  have hpost : ∀ x ∈ post, ∀ i, blkF x = some i → (Value.slice f.A f.n f.c).ownBlock ≠ some i := fun x hx i hi e => s2.1 x hx i e hi
  have hlt : ∀ x ∈ pre ++ [f] ++ post, ∀ i, blkF x = some i → i < w.heap.size := fun x hx i hi => ((ho.b.1 x hx).blk i hi).2
  have hB1 : OwnBs w1 base (pre ++ [(⟨f.id, A', n', c', f.safe, zs⟩ : FileD)] ++ post) := by
    refine ⟨fun x hx => ?_, ?_⟩
    · rcases List.mem_append.1 hx with hx | hx
      · rcases List.mem_append.1 hx with hx | hx
        · exact Only.own (ho.b.1 x (by simp [hx])) on (fun i hi e => hpre x hx i hi e)
        · rw [List.mem_singleton] at hx; subst hx; exact hB
      · exact Only.own (ho.b.1 x (by simp [hx])) on (fun i hi e => hpost x hx i hi e)
    · rw [List.append_assoc, List.pairwise_append]
      refine ⟨s1, ?_, fun x hx y hy => ?_⟩
      · rw [List.singleton_append, List.pairwise_cons]
        refine ⟨fun y hy i hi e => ?_, s2.2⟩
        rcases hnew i hi with h | h
        · exact s2.1 y hy i h e
        · have := hlt y (by simp [hy]) i e; omega
      · rcases List.mem_append.1 hy with hy | hy
        · rw [List.mem_singleton] at hy; subst hy
          intro i hi e
          rcases hnew i e with h | h
          · exact hpre x hx i hi h
          · have := hlt x (by simp [hx]) i hi; omega
        · exact s3 x hx y (by simp [hy])
  have hblk : ∀ x ∈ pre ++ [(⟨f.id, A', n', c', f.safe, zs⟩ : FileD)] ++ post, blkF x ≠ some g := fun x hx e => own_ne (hB1.1 x hx) hF1 (by decide) g e rfl
  refine ⟨hb1.other hgb, ⟨?_, OwnBs.cell_ hB1 hblk, own_setNe hL1 g _ _ (fun e => own_ne hL1 hF1 (by decide) g e rfl), own_setNe hT1 g _ _ (fun e => own_ne hT1 hF1 (by decide) g e rfl)⟩⟩
  have h := hF1
  unfold OwnF at h ⊢
  rw [List.map_append, List.map_append] at h ⊢
  exact rowJ (K := 3) (z := fileR f) rfl (file_len _) k (by rw [List.length_map]; exact hk) 1 (by decide) (.slice A' n' c') h
end
end Go.Proofs.YtfkdfabbpebljaaGreat.DOk
namespace Go.Proofs.YtfkdfabbpebljaaGreat.DOk
open Go.RowKit Go.Proofs.YtfkdfabbpebljaaGreat.Bytes Go.Proofs.YtfkdfabbpebljaaGreat.Rows_
set_option linter.unusedVariables false
theorem append_blk {w : World} {base n c n1 c1 : Nat} {A : Option Addr} {ad : Addr} {ty : TypeId} {xs : List Int} {news : List Value} (hown : Own w base A n c xs) (hl : news.length = n1) (hnews : ∀ j u, news[j]? = some u → w.cell? (ad.add j) = some u) (h1 : ∀ u ∈ news, u.oneCell' = true) (hn : n ≤ 2199023255552) (hn1 : n1 ≤ 2199023255552)
    {v' : Value} {w' : World} (hr : (Builtin.append_ #[27, 27] ty #[.slice A n c, .slice (some ad) n1 c1]).run Tryz.prog w = .ok v' w') :
    ∀ g, v'.ownBlock = some g → (Value.slice A n c).ownBlock = some g ∨ w.heap.size ≤ g := by
  obtain ⟨i0, hi, hz0, hz1, hz2⟩ := info_parts Tryzinfo
  intro g hg
  have hl' : news.length = n1 * i0.size := by rw [hz1]; omega
  rcases hown.2 with ⟨hv, h0⟩ | ⟨g0, cap, cur, hv, hbg, hgg, hnc, hcm, hcs, htake⟩
  · injection hv with e1 e2 e3
    subst e1 e2 e3
    by_cases hm : n1 = 0
    · subst hm
      obtain ⟨v2, w2, hr2, ho2, hg2, hiff⟩ := run_append_own (P := Tryz.prog) w 0 27 ty 5 i0 (.int .u8 0) 1 1 Tryz.underlying27 hi hz0 hz1 hz2 rfl (by decide) (.slice none 0 0) 0 [] (World.ownsRow_nil w 0 _ _) ad 0 c1 news (by omega) hnews h1 (by unfold maxLen; omega) (by omega) (Nat.zero_le _)
      rw [hr] at hr2
      injection hr2 with e1 e2
      have := (hiff.2 ⟨rfl, rfl⟩)
      rw [← e1] at this
      rw [this] at hg; cases hg
    · have hr2 := run_append_nil (P := Tryz.prog) w 27 ty 5 i0 (.int .u8 0) Tryz.underlying27 hi hz0 ad n1 c1 news hl' hnews (by omega) (by omega) (by rw [hz2]; omega)
      rw [hr] at hr2
      injection hr2 with e1 e2
      subst e1
      simp [Value.ownBlock] at hg
      exact .inr (by omega)
  · injection hv with e1 e2 e3
    subst e1 e3
    by_cases hroom : n + n1 ≤ c
    · have hr2 := run_append_room (P := Tryz.prog) w 27 ty 5 i0 Tryz.underlying27 hi g0 n c cur hgg ad n1 c1 news hl' hnews h1 hroom (by rw [hz1]; omega)
      rw [hr] at hr2
      injection hr2 with e1 e2
      subst e1
      exact .inl hg
    · have holds : ∀ j u, (bv xs)[j]? = some u → w.cell? ((⟨g0, 0, none⟩ : Addr).add j) = some u := World.ownsRow.cells hown (g := g0) rfl
      have hr2 := run_append_grow (P := Tryz.prog) w 27 ty 5 i0 (.int .u8 0) Tryz.underlying27 hi hz0 ⟨g0, 0, none⟩ n c (bv xs) (by rw [hz1]; have := hown.1; simpa using this) holds ad n1 c1 news hl' hnews (by omega) (by omega) (growslice_fits (by omega) (by rw [hz2]; omega))
      rw [hr] at hr2
      injection hr2 with e1 e2
      subst e1
      simp [Value.ownBlock] at hg
      exact .inr (by omega)
theorem step_body {wr : World} {ops : Array Oper} {o : Oper} {a : Act} {K : Act → World → Prop} {Q : Exit → Act → World → Prop} {E : Prop} (hgd : o.guard = none) (s x : Operand)
    (ho : o.op = .call { callee := .builtin .append, args := #[s, x], argTypes := #[27, 27] })
    {base B n c n1 c1 : Nat} {A A1 : Option Addr} {xs ys : List Int} (hs : a.eval s = .slice A n c) (hx : a.eval x = .slice A1 n1 c1)
    (hown : Own wr base A n c xs) (hsrc : Rd wr B A1 ys) (hA : A1 = none → n1 = 0 ∧ c1 = 0) (hl : ys.length = n1) (hn : n ≤ 2199023255552) (hn1 : n1 ≤ 2199023255552) (hbase : base ≤ wr.heap.size)
    (h : ∀ A' c' w', Own w' base A' (n + n1) c' (xs ++ ys) → Below base wr w' → wr.grownBy w' (Value.slice A n c).ownBlock → (∀ g, (Value.slice A' (n + n1) c').ownBlock = some g → (Value.slice A n c).ownBlock = some g ∨ wr.heap.size ≤ g) → K (a.put o.dst (.slice A' (n + n1) c')) w') :
    if Region.wanted o (yielded ops a.tmps) = true then Oper.wp Tryz.prog o a wr K Q else E := by
  have hw : Region.wanted o (yielded ops a.tmps) = true := by simp [Region.wanted, hgd]
  rw [if_pos hw]
  obtain ⟨i0, hi, hz0, hz1, hz2⟩ := info_parts Tryzinfo
  rcases A1 with _ | ad
  · obtain ⟨rfl, rfl⟩ := hA rfl
    obtain rfl : ys = [] := List.eq_nil_of_length_eq_zero hl
    have hrun := run_append_owned_none (P := Tryz.prog) (w := wr) base 27 o.type 5 i0 1 Tryz.underlying27 hi _ n _ hown
    unfold Oper.wp
    simp [execOp, ho, resolve, invoke, builtin, hs, hx, hrun, Result.andThen]
    exact h A c wr (by simpa using hown) (Below.refl _ _) (World.grownBy.refl _ _) (fun g hg => .inl hg)
  · obtain ⟨v', w', hr, h2, h3, h4⟩ := run_append_own (P := Tryz.prog) wr base 27 o.type 5 i0 (.int .u8 0) 1 1 Tryz.underlying27 hi hz0 hz1 hz2 rfl (by decide) _ n _ hown ad n1 c1 (bv ys) (by rw [bv_len]; omega) (rd_cells hsrc) (bv_cell _) (by unfold maxLen; omega) (by omega) hbase
    have hk := append_blk hown (by rw [bv_len]; exact hl) (rd_cells hsrc) (bv_cell _) hn hn1 hr
    unfold Oper.wp
    simp [execOp, ho, resolve, invoke, builtin, hs, hx, hr, Result.andThen]
    rw [← bv_app] at h2
    obtain ⟨A', c', rfl, ho'⟩ := own_row h2
    exact h A' c' w' ho' ((Below.refl _ _).grown h3 hbase (own_block hown)) h3 hk
end Go.Proofs.YtfkdfabbpebljaaGreat.DOk
namespace Go.Proofs.YtfkdfabbpebljaaGreat.DOk
open Go.RowKit Go.Proofs.YtfkdfabbpebljaaGreat.Bytes Go.Proofs.YtfkdfabbpebljaaGreat.Rows_
set_option linter.unusedVariables false

set_option maxRecDepth 100000 in
theorem isId_any (x0 : Int) (x1 : Option Addr) (x2 x3 : Nat) (x4 id : Int) (B : Nat) (w : World) (hB : B < w.heap.size) (hc : w.cell? ⟨B, 0, none⟩ = some (.int .i64 id)) :
    Calls Tryz.prog 88 #[.agg #[.int .i64 x0, .slice x1 x2 x3, .int .i64 x4], .pointer (some ⟨B, 0, none⟩)] w fun e w' => e = .returned (.bool (x0 == id)) ∧ Below w.heap.size w w' := by
  have hne : B ≠ w.heap.size := by omega
  have hb0 := Lib.hid ((Below.refl w.heap.size w).alloc (Nat.le_refl _) (.cells #[.int .i64 x0, .slice x1 x2 x3, .int .i64 x4] 58))
  go_enter Tryz.func88, Tryz.ntmps88
  go_wp2_with fail
  go_ret
  exact ⟨rfl, hb0.out⟩

set_option maxRecDepth 100000 in
set_option maxHeartbeats 1600000 in
theorem indexFunc_hit (F : Option Addr) (nf cf : Nat) (fs : List FileD) (id : Int) (B i0 : Nat) (w : World) (hf : RdF w w.heap.size F fs) (hfl : fs.length = nf) (hfn : nf ≤ 2000) (hi : i0 < fs.length) (hno : ∀ j (hj : j < fs.length), j < i0 → fs[j].id ≠ id) (hyes : fs[i0].id = id)
    (hB : B < w.heap.size) (hc : w.cell? ⟨B, 0, none⟩ = some (.int .i64 id)) :
    Calls Tryz.prog 87 #[.slice F nf cf, .func (.func 88) #[] #[.pointer (some ⟨B, 0, none⟩)]] w fun e w' => e = .returned (.int .i64 (i0 : Nat)) ∧ Below w.heap.size w w' := by
  have hi' : i0 < nf := by omega
  have eg : ∀ args w, (callFunc 88 args).run Tryz.prog w = .ok (.enter 88 args) w := enters_of Tryz.func88 (by kernel_rfl) rfl
  have HF := Lib.hid hf
  have HFL := Lib.hid hfl
  have HN := Lib.hid hno
  have HY := Lib.hid hyes
  have HC := Lib.hid hc
  clear hf hfl hno hyes hc
  go_enter Tryz.func87, Tryz.ntmps87
  go_wp2_with fail
  go_loopw [5, 8] (fun _ i wr => ∃ k : Nat, k ≤ i0 ∧ i = .int .i64 (k : Nat) ∧ Below w.heap.size w wr) (fun _ i _ => nf - (intOf i).toNat)
  case atStart => exact ⟨0, Nat.zero_le _, rfl, Below.refl _ _⟩
  case round =>
    obtain ⟨k, hk, rfl, hb⟩ := hrel
    have hlt' : k < fs.length := by omega
    have hlt : k < nf := by omega
    obtain ⟨b, o, rfl, hBb, hc0, hc1, hc2⟩ := (HF.out.below (Nat.le_refl _) hb).at_ hlt'
    have HB := Lib.hid hb
    have hz : w.heap.size ≤ wr.heap.size := hb.size
    have hcall := fun x0 x1 x2 x3 x4 => isId_any x0 x1 x2 x3 x4 id B wr (Nat.lt_of_lt_of_le hB hz) ((hb.cell (p := ⟨B, 0, none⟩) hB).trans HC.out)
    have HCALL := Lib.hid hcall
    clear hb hcall
    by_cases hki : k = i0
    · have HID := Lib.hid (show (fs[k].id == id) = true by subst hki; simpa using HY.out)
      have HKI := Lib.hid hki
      clear hki
      generalize fs[k].id = x0 at *
      generalize fs[k].A = x1 at *
      generalize fs[k].n = x2 at *
      generalize fs[k].c = x3 at *
      generalize fs[k].safe = x4 at *
      have hcall := HCALL.out x0 x1 x2 x3 x4
      rw [HID.out] at hcall
      clear HCALL
      go_wp2_with (go_at_call 88; refine hcall.mono ?_; rintro e w' ⟨rfl, hb'⟩)
      go_ret
      exact ⟨by rw [HKI.out]; rfl, HB.out.trans (hb'.mono hz)⟩
    · have HID := Lib.hid (show (fs[k].id == id) = false by simpa using HN.out k hlt' (by omega))
      generalize fs[k].id = x0 at *
      generalize fs[k].A = x1 at *
      generalize fs[k].n = x2 at *
      generalize fs[k].c = x3 at *
      generalize fs[k].safe = x4 at *
      have hcall := HCALL.out x0 x1 x2 x3 x4
      rw [HID.out] at hcall
      clear HCALL
      go_wp2_with (go_at_call 88; refine hcall.mono ?_; rintro e w' ⟨rfl, hb'⟩)
      exact ⟨⟨k + 1, by omega, by go_num, HB.out.trans (hb'.mono hz)⟩, by simp [intOf]; omega⟩

set_option maxRecDepth 100000 in
set_option maxHeartbeats 1600000 in
theorem fileWith_hit (b o nf cf : Nat) (fs : List FileD) (id : Int) (i0 : Nat) (w : World) (hf : RdF w w.heap.size (some ⟨b, o, none⟩) fs) (hfl : fs.length = nf) (hfn : nf ≤ 2000) (hi : i0 < fs.length) (hno : ∀ j (hj : j < fs.length), j < i0 → fs[j].id ≠ id) (hyes : fs[i0].id = id) :
    Calls Tryz.prog 73 #[.slice (some ⟨b, o, none⟩) nf cf, .int .i64 id] w fun e w' => e = .returned (.pointer (some ⟨b, o + i0 * 3, none⟩)) ∧ Below w.heap.size w w' := by
  have hmf : ∀ (fn : Fn) (first cap : Array Value) (w : World), (Instr.makeFunc fn first cap).run Tryz.prog w = .ok (.func fn first cap) w := fun _ _ _ _ => rfl
  have hb0 := (Below.refl w.heap.size w).alloc (Nat.le_refl _) (.cells #[.int .i64 id] 3)
  have HCon := Lib.hid (indexFunc_hit (some ⟨b, o, none⟩) nf cf fs id w.heap.size i0 (w.alloc (.cells #[.int .i64 id] 3)) ((hf.below (Nat.le_refl _) hb0).more (by simp)) hfl hfn hi hno hyes (by simp) (by rw [World.cell?_alloc_at _ _ _ _ rfl]; rfl))
  have HB0 := Lib.hid hb0
  have hi' : i0 < nf := by omega
  clear hf hfl hno hyes hb0
  go_enter Tryz.func73, Tryz.ntmps73
  go_wp2_with (go_at_call 87; refine HCon.out.mono ?_; rintro e w1 ⟨rfl, hb1⟩)
  go_ret
  exact ⟨rfl, HB0.out.trans (hb1.mono (by simp))⟩
end Go.Proofs.YtfkdfabbpebljaaGreat.DOk
namespace Go.Proofs.YtfkdfabbpebljaaGreat.DOk
open Go.RowKit Go.Proofs.YtfkdfabbpebljaaGreat.Bytes Go.Proofs.YtfkdfabbpebljaaGreat.Rows_ Go.Maps Go.WideMaps
set_option linter.unusedVariables false
theorem vI_inj' {a b : Int} (h : vI a = vI b) : a = b := by unfold vI at h; injection h with h; injection h
theorem lk_run {W : World} {mb nn : Nat} {D : Dat} {name : ByteArray} {z : Int} (hM : OwnM W mb nn D) (h1 : name.size ≤ maxLen) (hz : D.atKey (kS name) (vI 0) = vI z) :
    (Instr.lookup 67 (.map (some mb)) (.string name) false).run Tryz.prog W = .ok (.int .i64 z) W := by
  obtain ⟨c, hrun, hat, _⟩ := World.ownsMap.lookup_int hM skey Tryz.underlying67 Tryz.underlying3 (zeroI _) (keyS h1)
  have e : c = z := vI_inj' (hat.symm.trans hz)
  rw [e] at hrun
  exact hrun
/-- the file of a name, in a world in which the disk lies -/
theorem fw_any {w : World} {base g nf cf : Nat} {pre post : List FileD} {f : FileD} {z : Int} {i0 : Nat} (hf : OwnF w base (some ⟨g, 0, none⟩) nf cf (pre ++ [f] ++ post)) (hnf : nf ≤ 2000) (hi0 : pre.length = i0) (hno : ∀ x ∈ pre, x.id ≠ z) (hyes : f.id = z) :
    Calls Tryz.prog 73 #[.slice (some ⟨g, 0, none⟩) nf cf, .int .i64 z] w fun e w' => e = .returned (.pointer (some ⟨g, 0 + i0 * 3, none⟩)) ∧ Below w.heap.size w w' := by
  have hl : (pre ++ [f] ++ post).length = nf := by have := hf.1; rw [flat_len 3 _ (file_len _), List.length_map] at this; omega
  have hi : i0 < (pre ++ [f] ++ post).length := by simp; omega
  refine fileWith_hit g 0 nf cf (pre ++ [f] ++ post) z i0 w hf.rd hl hnf hi (fun j hj hji => ?_) ?_
  · have e : (pre ++ [f] ++ post)[j] = pre[j]'(by omega) := by rw [List.getElem_append_left (by simp; omega), List.getElem_append_left (by omega)]
    rw [e]; exact hno _ (List.getElem_mem _)
  · have e : (pre ++ [f] ++ post)[i0] = f := by
      subst hi0
      rw [List.getElem_append_left (by simp), List.getElem_append_right (by omega)]; simp
    rw [e]; exact hyes

set_option maxRecDepth 100000 in
set_option maxHeartbeats 3200000 in
theorem exec_sync (b base B : Nat) (room fuse next : Int) (g nf cf : Nat) (K : Option Addr) (nk ck : Nat) (T : Option Addr) (nt ct : Nat) (pre post : List FileD) (f : FileD) (ks : List LinkD) (ts : List TurnD) (i0 : Nat) (z : Int) (w : World)
    (hb : BoxW w b #[.int .i64 room, .int .i64 fuse, .int .i64 next, .slice (some ⟨g, 0, none⟩) nf cf, .slice K nk ck, .slice T nt ct]) (ho : OwnD w base (some ⟨g, 0, none⟩) nf cf (pre ++ [f] ++ post) K nk ck ks T nt ct ts) (hB : B ≤ b) (hB2 : B ≤ base) (hbw : base ≤ w.heap.size) (hnf : nf ≤ 2000) (hi0 : pre.length = i0) (hno : ∀ x ∈ pre, x.id ≠ z) (hyes : f.id = z) (mb nn : Nat) (D : Dat) (hM : OwnM w mb nn D) (name to_ : ByteArray) (h1 : name.size ≤ maxLen) (hz : D.atKey (kS name) (vI 0) = vI z) (A : Option Addr) (n c : Nat) (hfn : f.n ≤ 1099511627776) :
    Calls Tryz.prog 37 #[.pointer (some ⟨b, 0, none⟩), .map (some mb), .agg #[.int .i64 3, .string name, .string to_, .slice A n c]] w fun e w' =>
      e = .returned (.int .i64 0) ∧ Below B w w' ∧ BoxW w' b #[.int .i64 room, .int .i64 fuse, .int .i64 next, .slice (some ⟨g, 0, none⟩) nf cf, .slice K nk ck, .slice T nt ct] ∧ OwnD w' base (some ⟨g, 0, none⟩) nf cf (pre ++ [(⟨f.id, f.A, f.n, f.c, (f.n : Nat), f.bytes⟩ : FileD)] ++ post) K nk ck ks T nt ct ts := by
  obtain ⟨W, hW⟩ : ∃ W, W = w.alloc (.cells #[.int .i64 3, .string name, .string to_, .slice A n c] 40) := ⟨_, rfl⟩
  have hbW : Below w.heap.size w W := by rw [hW]; exact (Below.refl _ _).alloc (Nat.le_refl _) _
  have hBW := Lib.hid (hbW.mono (Nat.le_trans hB2 hbw))
  have hlt := hb.lt
  have HX := Lib.hid (hb.below hbW hlt)
  have HO := Lib.hid (ho.below (Nat.le_refl _) hbW)
  have hMW := hM.below hbW (Nat.le_refl _)
  have lk1 := lk_run hMW h1 hz
  have lk2 := lk_run (W := W.drew) hMW h1 hz
  have q0 : W.cell? ⟨w.heap.size, 0, none⟩ = some (.int .i64 3) := by rw [hW, World.cell?_alloc_at _ _ _ _ rfl]; rfl
  have q1 : W.cell? ⟨w.heap.size, 1, none⟩ = some (.string name) := by rw [hW, World.cell?_alloc_at _ _ _ _ rfl]; rfl
  have x3 : W.cell? ⟨b, 3, none⟩ = some (.slice (some ⟨g, 0, none⟩) nf cf) := HX.out.cell 3
  have hsz : w.heap.size < W.heap.size := by rw [hW]; simp
  have HW := Lib.hid hW.symm
  have hbW3 : b < W.heap.size := by omega
  have hgb : B ≤ g := Nat.le_trans hB2 (World.ownsRow.lt HO.out.f g rfl).1
  have HF := Lib.hid (show Calls Tryz.prog 73 #[.slice (some ⟨g, 0, none⟩) nf cf, .int .i64 z] W.drew (fun e w' => e = .returned (.pointer (some ⟨g, i0 * 3, none⟩)) ∧ Below W.heap.size W.drew w') from (fw_any (w := W.drew) (z := z) HO.out.f hnf hi0 hno hyes).mono (by rintro e w' ⟨rfl, h⟩; exact ⟨by rw [Nat.zero_add], h⟩))
  clear hW hbW hb ho hM hMW hno hyes hz
  go_enter Tryz.func37, Tryz.ntmps37
  go_upto_region 1 with fail
  rw [HW.out]
  go_upto_region 9 with fail
  refine wp_region_still_tail 8 (by kernel_rfl) (by kernel_rfl) ?_
  simp only [List.take_succ_cons, List.take_zero, List.drop_succ_cons, List.drop_zero]
  repeat still_step
  refine wpStill_nil ?_
  change wpList _ _ _ _ _ W.drew
  clear lk1 lk2 x3
  go_wp2_with fail
  refine HF.out.mono ?_
  rintro e v1 ⟨rfl, hv⟩
  have HX1 := Lib.hid (BoxW.below (w := W.drew) HX.out hv hbW3)
  have HO1 := Lib.hid (OwnD.below (w := W.drew) (⟨HO.out.f, HO.out.b, HO.out.l, HO.out.t⟩) (Nat.le_refl _) hv)
  have HB1 := Lib.hid ((hBW.out.drew).trans (hv.mono (by have := HO.out; omega)))
  have c1 : v1.cell? ⟨g, i0 * 3 + 1, none⟩ = some (.slice f.A f.n f.c) := file_cell HO1.out.f i0 hi0 1 (by omega) _ rfl
  have c2 : v1.cell? ⟨g, i0 * 3 + 2, none⟩ = some (.int .i64 f.safe) := file_cell HO1.out.f i0 hi0 2 (by omega) _ rfl
  have f2 : v1.frozen? ⟨g, i0 * 3 + 2, none⟩ = false := World.ownsRow.frozenAt (h := HO1.out.f) (i0 * 3 + 2)
  have HD := Lib.hid (ownD_safe HX1.out HO1.out i0 hi0 (f.n : Nat))
  clear hv
  go_wp2_with fail
  go_ret
  exact ⟨rfl, HB1.out.setCell hgb _, HD.out.1, HD.out.2⟩
end Go.Proofs.YtfkdfabbpebljaaGreat.DOk
