/- Texts that lay in modules of their own: DiskLawE, RisMath, CrashLem, Settle. -/
import Derived.Test.YtckiloacbanbmaaGreatMarkAll
import Derived.Test.YtckiloacbanbmaaGreatDiskMath
import Derived.Test.YtckiloacbanbmaaGreatEqDisk
import Derived.Test.YtckiloacbanbmaaGreatClones
import Derived.Test.YtckiloacbanbmaaGreatReadMath
import Derived.Test.YtckiloacbanbmaaGreatCrashMath
import Derived.Test.YtckiloacbanbmaaGreatMarkDisk
import Derived.Test.YtckiloacbanbmaaGreatDelete
namespace Go.Proofs.YtckiloacbanbmaaGreat.DOk
open Go.RowKit Go.Proofs.YtckiloacbanbmaaGreat.Bytes Go.Proofs.YtckiloacbanbmaaGreat.Rows_
set_option linter.unusedVariables false
section
variable {w w' : World} {base : Nat} {F : Option Addr} {nf cf : Nat} {gs : List FileD} {K : Option Addr} {nk ck : Nat} {ks : List LinkD} {T : Option Addr} {nt ct : Nat} {ts : List TurnD}
theorem OwnD.lenF (h : OwnD w base F nf cf gs K nk ck ks T nt ct ts) : gs.length = nf := by
  have h1 := h.f.1
  rw [flat_len 3 _ (file_len gs), List.length_map] at h1; omega
theorem OwnD.lenL (h : OwnD w base F nf cf gs K nk ck ks T nt ct ts) : ks.length = nk := by
  have h1 := h.l.1
  rw [flat_len 2 _ (link_len ks), List.length_map] at h1; omega
theorem OwnD.lenT (h : OwnD w base F nf cf gs K nk ck ks T nt ct ts) : ts.length = nt := by
  have h1 := h.t.1
  rw [flat_len 4 _ (turn_len ts), List.length_map] at h1; omega
theorem OwnD.only {S : Nat → Prop} (h : OwnD w base F nf cf gs K nk ck ks T nt ct ts) (on : Only S w w') (hd : ∀ i, SD F nf cf gs K nk ck T nt ct i → ¬ S i) : OwnD w' base F nf cf gs K nk ck ks T nt ct ts :=
  ⟨Only.own h.f on (fun g hg => hd g (.inl (.inl hg))), ⟨fun f hf => Only.own (h.b.1 f hf) on (fun g hg => hd g (.inl (.inr ⟨f, hf, hg⟩))), h.b.2⟩, Only.own h.l on (fun g hg => hd g (.inr (.inl hg))), Only.own h.t on (fun g hg => hd g (.inr (.inr hg)))⟩
end
theorem Only.below_ {S : Nat → Prop} {a w w' : World} {B : Nat} (h : Only S w w') (hb : Below B a w) (hB : B ≤ w.heap.size) (hS : ∀ i, S i → B ≤ i) : Below B a w' :=
  ⟨h.os.trans hb.os, h.tape.trans hb.tape, h.output.trans hb.output, Nat.le_trans hb.size h.size, fun i hi => (h.block i (Nat.lt_of_lt_of_le hi hB) fun hs => by have := hS i hs; omega).trans (hb.block i hi)⟩
theorem Box6.only {S : Nat → Prop} {w w' : World} {b : Nat} {x0 x1 x2 x3 x4 x5 : Value} (h : Box6 w b x0 x1 x2 x3 x4 x5) (on : Only S w w') (hn : ¬ S b) : Box6 w' b x0 x1 x2 x3 x4 x5 :=
  ⟨on.cell h.1 hn, on.cell h.2.1 hn, on.cell h.2.2.1 hn, on.cell h.2.2.2.1 hn, on.cell h.2.2.2.2.1 hn, on.cell h.2.2.2.2.2 hn⟩
theorem eqD {w : World} {base1 base2 : Nat} (room fuse next : Int) {F G : Option Addr} {nf cf cg : Nat} {K L : Option Addr} {nk ck cl : Nat} {T U : Option Addr} {nt ct cu : Nat} {fs gs : List FileD} {ks : List LinkD} {ts : List TurnD}
    (h1 : OwnD w base1 F nf cf fs K nk ck ks T nt ct ts) (h2 : OwnD w base2 G nf cg gs L nk cl ks U nt cu ts) (hk : gs.map keyF = fs.map keyF) (hu : usedD fs + nf + nk + nt ≤ 1099511627776) :
    Calls Tryz.prog 11 #[.agg #[.int .i64 room, .int .i64 fuse, .int .i64 next, .slice F nf cf, .slice K nk ck, .slice T nt ct], .agg #[.int .i64 room, .int .i64 fuse, .int .i64 next, .slice G nf cg, .slice L nk cl, .slice U nt cu]] w fun e w' => e = .returned (.bool true) ∧ Below w.heap.size w w' :=
  eqDisk_yes room fuse next F G nf cf cg K L nk ck cl T U nt ct cu fs gs ks ts w h1.f.rd h2.f.rd h1.lenF (same_of_keys hk) h1.b.rdB h2.b.rdB (by omega) (fun f hf => by have := n_used hf; omega) h1.l.rd h2.l.rd h1.lenL (by omega) h1.t.rd h2.t.rd h1.lenT (by omega)
end Go.Proofs.YtckiloacbanbmaaGreat.DOk
namespace Go.Proofs.YtckiloacbanbmaaGreat.DOk
open Go.RowKit Go.Proofs.YtckiloacbanbmaaGreat.Bytes Go.Proofs.YtckiloacbanbmaaGreat.Rows_
set_option linter.unusedVariables false

theorem ris_less {l : List LinkD} (h : Ris l) (s : List UInt8) : Ris (lessD l s) := List.Pairwise.filter _ h
theorem gtB_iff (a b : List UInt8) : gtB a b = Op.bytesLess b a := by unfold gtB; rw [less_total]; simp
theorem ris_fold (s : ByteArray) (id : Int) : ∀ (r acc : List LinkD) (d : Bool), Ris (acc ++ r) → (d = false → (∀ x ∈ acc, Op.bytesLess x.1.toList s.toList = true) ∧ ∀ x ∈ r, x.1.toList ≠ s.toList) →
    Ris (if (r.foldl (withStep s id) (acc, d)).2 = true then (r.foldl (withStep s id) (acc, d)).1 else (r.foldl (withStep s id) (acc, d)).1 ++ [(s, id)])
  | [], acc, d, h, h2 => by
    rw [List.append_nil] at h
    cases d
    · rw [List.foldl_nil, if_neg (by simp)]
      exact List.pairwise_append.2 ⟨h, List.pairwise_singleton _ _, fun x hx y hy => by rw [List.mem_singleton] at hy; subst hy; exact (h2 rfl).1 x hx⟩
    · rw [List.foldl_nil, if_pos rfl]; exact h
  | x :: r, acc, d, h, h2 => by
    rw [List.foldl_cons]
    have e : acc ++ x :: r = acc ++ [x] ++ r := by simp
    cases d
    · obtain ⟨ha, hr⟩ := h2 rfl
      cases hg : gtB x.1.toList s.toList
      · have hst : withStep s id (acc, false) x = (acc ++ [x], false) := by unfold withStep; rw [hg]; rfl
        rw [hst]
        refine ris_fold s id r _ _ (by rw [← e]; exact h) (fun _ => ⟨fun y hy => ?_, fun y hy => hr y (List.mem_cons_of_mem _ hy)⟩)
        rcases List.mem_append.1 hy with hy | hy
        · exact ha y hy
        · rw [List.mem_singleton] at hy
          subst hy
          have hne := hr y List.mem_cons_self
          rw [gtB_iff] at hg
          cases hl : Op.bytesLess y.1.toList s.toList
          · exfalso
            have := less_total y.1.toList s.toList
            rw [hl, hg] at this
            simp at this
            exact hne this
          · rfl
      · have hst : withStep s id (acc, false) x = (acc ++ [(s, id)] ++ [x], true) := by unfold withStep; rw [hg]; rfl
        rw [hst]
        rw [gtB_iff] at hg
        refine ris_fold s id r _ _ ?_ (fun h => by cases h)
        obtain ⟨p1, p2, p3⟩ := List.pairwise_append.1 h
        obtain ⟨p4, p5⟩ := List.pairwise_cons.1 p2
        rw [List.append_assoc, List.append_assoc]
        refine List.pairwise_append.2 ⟨p1, ?_, fun a hA b hb => ?_⟩
        · refine List.pairwise_cons.2 ⟨fun b hb => ?_, by simpa using p2⟩
          have hb' : b ∈ x :: r := by simpa using hb
          rcases List.mem_cons.1 hb' with rfl | hb'
          · exact hg
          · exact less_trans _ _ _ hg (p4 b hb')
        · rcases List.mem_cons.1 (by simpa using hb : b ∈ (s, id) :: x :: r) with rfl | hb'
          · exact ha a hA
          · exact p3 a hA b hb'
    · have hst : withStep s id (acc, true) x = (acc ++ [x], true) := by unfold withStep; simp
      rw [hst]
      exact ris_fold s id r _ _ (by rw [← e]; exact h) (fun h => by cases h)
theorem ris_with {l : List LinkD} (h : Ris l) (s : ByteArray) (id : Int) (hn : ¬ InN l s.toList) : Ris (withD l s id) :=
  ris_fold s id l [] false h (fun _ => ⟨(fun x hx => by cases hx), fun x hx e => hn ⟨x, hx, e⟩⟩)
theorem ris_turn {l : List LinkD} (h : Ris l) (hp : ∀ x ∈ l, 0 < x.2) (t : TurnD) (hok : turnOkS l t = true) : Ris (turnD l t) := by
  have hfp := find_pos l t.name.toList hp
  unfold turnOkS tokS at hok
  unfold turnD
  by_cases k1 : t.kind = 1
  · simp only [k1, if_true, Bool.and_eq_true, decide_eq_true_iff, Bool.not_eq_true'] at hok
    rw [if_pos k1]
    refine ris_with h _ _ (fun hin => ?_)
    have := hfp.2 hin
    have h0 := hok.2.2
    simp at h0
    omega
  · rw [if_neg k1]
    split
    · refine ris_with (ris_less (ris_less h _) _) _ _ (fun hin => ?_)
      obtain ⟨x, hx, e⟩ := hin
      exact ((mem_less _ _ _).1 hx).2 e
    · exact ris_less h _
theorem ris_dir (ks : List LinkD) (ts : List TurnD) (hk : ∀ x ∈ ks, 0 < x.2) (hr : Ris ks) (ha : ∀ j h, TurnAt ks ts j h) : ∀ j, j ≤ ts.length → Ris (dirAt ks (ts.take j)) := by
  intro j
  induction j with
  | zero => intro _; exact hr
  | succ j ih =>
    intro hj
    have h := ih (by omega)
    have h2 := (dir_all ks ts hk hr ha j (by omega)).1
    rw [dirAt_snoc ks ts j hj]
    exact ris_turn h h2.2.2 _ (ha j hj)
theorem okS_ris {room fuse next : Int} {fs : List FileD} {ks : List LinkD} {ts : List TurnD} (h : OkS room fuse next fs ks ts) : Ris (dirAt ks ts) := by
  obtain ⟨_, _, _, _, _, hf, hk, hl, hid, ht⟩ := h
  have hsub : ∀ z ∈ idsD ks ts, z ∈ fidsD fs := by
    intro z hz
    obtain ⟨j, hj, rfl⟩ := List.getElem_of_mem hz
    exact (hasI_iff _ _).1 (hid j hj).2
  have hpos : ∀ x ∈ ks, 0 < x.2 := fun x hx => fids_pos next fs hf _ (hsub _ (List.mem_append_left _ (List.mem_map.2 ⟨x, hx, rfl⟩)))
  have := ris_dir ks ts hpos (kept_ris ks hk) ht ts.length (Nat.le_refl _)
  rwa [List.take_length] at this
end Go.Proofs.YtckiloacbanbmaaGreat.DOk
namespace Go.Proofs.YtckiloacbanbmaaGreat.DOk
open Go.RowKit Go.Proofs.YtckiloacbanbmaaGreat.Bytes Go.Proofs.YtckiloacbanbmaaGreat.Rows_ Go.Maps
set_option linter.unusedVariables false

theorem RdT.take {w : World} {B : Nat} {A : Option Addr} {ts : List TurnD} (h : RdT w B A ts) (m : Nat) : RdT w B A (ts.take m) := by
  intro hn
  have hn' : 0 < (ts.map turnR).length := by rw [List.length_map, List.length_take] at hn; rw [List.length_map]; omega
  obtain ⟨b, o, e, hlt, hc⟩ := h hn'
  refine ⟨b, o, e, hlt, fun i r hr => hc i r ?_⟩
  rw [List.map_take, List.getElem?_take] at hr
  split at hr
  · exact hr
  · cases hr
/-- of a good disk, what its directory after the first turns gives -/
theorem okS_partsN {room fuse next : Int} {fs : List FileD} {ks : List LinkD} {ts : List TurnD} (h : OkS room fuse next fs ks ts) (m : Nat) (hm : m ≤ ts.length) :
    Same (dirAt ks (ts.take m)) (dirM ks (ts.take m)) ∧ Val (dirAt ks (ts.take m)) (dirM ks (ts.take m)) ∧ Ris (dirAt ks (ts.take m)) ∧ (∀ x ∈ dirAt ks (ts.take m), x.2 ∈ fidsD fs) := by
  obtain ⟨_, _, _, _, _, hf, hk, hl, hid, ht⟩ := h
  have hsub : ∀ z ∈ idsD ks ts, z ∈ fidsD fs := by
    intro z hz
    obtain ⟨j, hj, rfl⟩ := List.getElem_of_mem hz
    exact (hasI_iff _ _).1 (hid j hj).2
  have hpos : ∀ x ∈ ks, 0 < x.2 := fun x hx => fids_pos next fs hf _ (hsub _ (List.mem_append_left _ (List.mem_map.2 ⟨x, hx, rfl⟩)))
  have hall := dir_all ks ts hpos (kept_ris ks hk) ht
  have h1 := hall m hm
  exact ⟨h1.1, h1.2, ris_dir ks ts hpos (kept_ris ks hk) ht m hm, fun x hx => hsub _ (ids_dir ks ts hpos ht (fun j hj => (hall j hj).1) m hm x hx)⟩
theorem okS_safe {room fuse next : Int} {fs : List FileD} {ks : List LinkD} {ts : List TurnD} (h : OkS room fuse next fs ks ts) : ∀ f ∈ fs, Safe f := by
  obtain ⟨_, _, _, _, _, hf, _⟩ := h
  intro f hm
  obtain ⟨j, hj, rfl⟩ := List.getElem_of_mem hm
  obtain ⟨_, _, _, h4, h5⟩ := hf j hj
  exact ⟨h4, h5⟩
theorem keys_safe {gs fs : List FileD} (hk : gs.map keyF = fs.map keyF) (h : ∀ f ∈ fs, Safe f) : ∀ f ∈ gs, Safe f :=
  keys_mem hk (P := Safe) (fun f g e h => by unfold keyF at e; simp only [Prod.mk.injEq] at e; unfold Safe at h ⊢; rw [e.2.1, e.2.2.1]; exact h) h
theorem blk_any (A : Option Addr) (n n' c c' : Nat) : (Value.slice A n c).ownBlock = (Value.slice A n' c').ownBlock := by cases A <;> rfl
theorem bodies_swap {w : World} {base : Nat} {pre post : List FileD} {g g' : FileD} (hg : blkF g' = blkF g) (h : OwnBs w base (pre ++ [g] ++ post)) (ho : Own w base g'.A g'.n g'.c g'.bytes) : OwnBs w base (pre ++ [g'] ++ post) := by
  obtain ⟨h1, h2⟩ := h
  refine ⟨fun x hx => ?_, ?_⟩
  · rcases List.mem_append.1 hx with hx | hx
    · rcases List.mem_append.1 hx with hx | hx
      · exact h1 x (by simp [hx])
      · rw [List.mem_singleton] at hx; subst hx; exact ho
    · exact h1 x (by simp [hx])
  · rw [sep_iff] at h2 ⊢
    rw [List.map_append, List.map_append] at h2 ⊢
    simp only [List.map_cons, List.map_nil] at h2 ⊢
    rw [hg]; exact h2
theorem OwnBs.cell_ {w : World} {base g j : Nat} {l : List FileD} {v : Value} (h : OwnBs w base l) (hg : ∀ f ∈ l, blkF f ≠ some g) : OwnBs (w.setCell ⟨g, j, none⟩ v) base l :=
  ⟨fun f hf => own_setNe (h.1 f hf) g j v (hg f hf), h.2⟩
theorem kAt_pos {cs : List Int} {k : Nat} (h : 0 < cs.length) : kAt cs k = cs[k % cs.length]'(Nat.mod_lt _ h) := by
  unfold kAt; rw [if_neg (by omega), List.getD_eq_getElem?_getD, List.getElem?_eq_getElem (Nat.mod_lt _ h)]; rfl
theorem kAt_at {cs : List Int} {k nc : Nat} (hl : cs.length = nc) (h : 0 < nc) (hr : k % nc < cs.length) : cs[k % nc] = kAt cs k := by subst hl; rw [kAt_pos h]
theorem kAt_zero {cs : List Int} {k : Nat} (h : cs.length = 0) : kAt cs k = 0 := if_pos h
theorem box_ne_row {w : World} {b base K n : Nat} {cs : Array Value} {E : TypeId} {v : Value} {xs : List Value} (h : BoxW w b cs) (hr : w.ownsRow base E K v n xs) (hE : 36 ≠ E) : v.ownBlock ≠ some b := by
  intro e
  rcases hr.2 with ⟨rfl, _⟩ | ⟨g, _, _, rfl, _, hg, _⟩
  · cases e
  · simp only [Value.ownBlock, Option.some.injEq] at e
    subst e
    unfold BoxW at h
    rw [h] at hg
    simp only [Option.some.injEq, Obj.cells.injEq] at hg
    exact hE hg.2.1
end Go.Proofs.YtckiloacbanbmaaGreat.DOk
namespace Go.Proofs.YtckiloacbanbmaaGreat.DOk
open Go.RowKit Go.Proofs.YtckiloacbanbmaaGreat.Bytes Go.Proofs.YtckiloacbanbmaaGreat.Rows_ Go.Maps
set_option linter.unusedVariables false

theorem Only.new {S : Nat → Prop} {w v : World} (h : Below w.heap.size w v) : Only S w v := Only.grown (grown_any h none) (fun i h => by cases h)
theorem Only.cell_ {S : Nat → Prop} (w : World) (b i : Nat) (v : Value) (h : S b) : Only S w (w.setCell ⟨b, i, none⟩ v) := Only.grown (Go.Lib.grownBy_setCell w b i v) (fun j e => by injection e with e; subst e; exact h)
theorem box_ne_map {w : World} {b m n : Nat} {cs : Array Value} {k : TypeId} {R : Value → Option (Dat × List MemPlace)} {D : Dat} (h : BoxW w b cs) (hm : w.ownsMap Tryz.prog k R m n D) : m ≠ b := by
  rintro rfl
  obtain ⟨es, clock, hg, _⟩ := hm
  unfold BoxW at h
  rw [h] at hg
  cases hg

set_option maxRecDepth 100000 in
set_option maxHeartbeats 6400000 in
theorem settle_any (b base m nn : Nat) (x0 x1 x2 : Value) (F : Option Addr) (nf cf : Nat) (x4 x5 : Value) (fs : List FileD) (D : Dat) (l : List LinkD) (w : World)
    (hx : BoxW w b #[x0, x1, x2, .slice F nf cf, x4, x5]) (hf : OwnF w base F nf cf fs) (hfl : fs.length = nf) (hfn : nf ≤ 2000) (hw : ∀ x ∈ fs, (Lit.int .i64 x.id).wf = true) (hbs : OwnBs w base fs)
    (hm : OwnM w m nn D) (hS : Same l D) (hV : Val l D) (hR : Ris l) (hwl : ∀ x ∈ l, (Lit.int .i64 x.2).wf = true) (hsz : size D ≤ 2000000) :
    Calls Tryz.prog 57 #[.pointer (some ⟨b, 0, none⟩), .map (some m)] w fun e w' => ∃ K' nk' ck', e = .returned (.tuple #[]) ∧
      BoxW w' b #[x0, x1, x2, .slice F (keptF (l.map (·.2)) fs).length cf, .slice K' nk' ck', .slice none 0 0] ∧ OwnF w' base F (keptF (l.map (·.2)) fs).length cf (keptF (l.map (·.2)) fs) ∧ OwnBs w' base (keptF (l.map (·.2)) fs) ∧ OwnL w' w.heap.size K' nk' ck' l ∧ Only (fun i => i = b ∨ (Value.slice F nf cf).ownBlock = some i) w w' := by
  have hmf : ∀ (fn : Fn) (first cap : Array Value) (w : World), (Instr.makeFunc fn first cap).run Tryz.prog w = .ok (.func fn first cap) w := fun _ _ _ _ => rfl
  have hbw := hx.lt
  have hmlt := hm.lt
  have hneF := box_ne_row hx hf (by decide)
  have hneM := box_ne_map hx hm
  have hneB : ∀ f ∈ fs, (Value.slice f.A f.n f.c).ownBlock ≠ some b := fun f h => box_ne_row hx (hbs.1 f h) (by decide)
  have HX := Lib.hid hx
  have HF := Lib.hid hf
  have HFL := Lib.hid hfl
  have HW := Lib.hid hw
  have HBS := Lib.hid hbs
  have HM := Lib.hid hm
  have HNB := Lib.hid hneB
  have HLi := Lib.hid (links_any m nn D l w hm hS hV hR (by omega))
  have HId := Lib.hid (fun W (h : OwnM W m nn D) => ids_any m nn D l W h hS hV hR hwl (by omega))
  clear hx hf hfl hw hbs hm hS hV hR hwl hneB
  go_enter Tryz.func57, Tryz.ntmps57
  go_wp2_with fail
  refine HLi.out.mono ?_
  rintro e v1 ⟨K1, nk1, ck1, rfl, ho1, hb1⟩
  have hx1 := HX.out.below hb1 hbw
  have c4 := hx1.cell 4
  have f4 := hx1.free 4
  have c5 := hx1.cell 5
  have f5 := hx1.free 5
  have s1 : w.heap.size ≤ v1.heap.size := hb1.size
  have HX3 := Lib.hid ((hx1.set4 (.slice K1 nk1 ck1)).set5 (.slice none 0 0))
  have HM3 := Lib.hid (show OwnM ((v1.setCell ⟨b, 4, none⟩ (.slice K1 nk1 ck1)).setCell ⟨b, 5, none⟩ (.slice none 0 0)) m nn D from
    World.ownsMap.kept (World.ownsMap.kept (HM.out.below hb1 (Nat.le_refl _)) (Go.Lib.grownBy_setCell _ _ _ _) (fun e => by injection e with e; exact hneM e)) (Go.Lib.grownBy_setCell _ _ _ _) (fun e => by injection e with e; exact hneM e))
  have HF3 := Lib.hid (show OwnF ((v1.setCell ⟨b, 4, none⟩ (.slice K1 nk1 ck1)).setCell ⟨b, 5, none⟩ (.slice none 0 0)) base F nf cf fs from own_setNe (own_setNe (own_belowK HF.out (Nat.le_refl _) hb1) b 4 _ hneF) b 5 _ hneF)
  have HBS3 := Lib.hid (show OwnBs ((v1.setCell ⟨b, 4, none⟩ (.slice K1 nk1 ck1)).setCell ⟨b, 5, none⟩ (.slice none 0 0)) base fs from ⟨fun f h => own_setNe (own_setNe ((HBS.out.1 f h).below (Nat.le_refl _) hb1) b 4 _ (HNB.out f h)) b 5 _ (HNB.out f h), HBS.out.2⟩)
  have hneL : (Value.slice K1 nk1 ck1).ownBlock ≠ some b := fun e => by have := (World.ownsRow.lt ho1 b e).1; omega
  have HL3 := Lib.hid (show OwnL ((v1.setCell ⟨b, 4, none⟩ (.slice K1 nk1 ck1)).setCell ⟨b, 5, none⟩ (.slice none 0 0)) w.heap.size K1 nk1 ck1 l from own_setNe (own_setNe ho1 b 4 _ hneL) b 5 _ hneL)
  have HON3 := Lib.hid (show Only (fun i => i = b ∨ (Value.slice F nf cf).ownBlock = some i) w ((v1.setCell ⟨b, 4, none⟩ (.slice K1 nk1 ck1)).setCell ⟨b, 5, none⟩ (.slice none 0 0)) from ((Only.new hb1).trans (Only.cell_ _ _ _ _ (.inl rfl))).trans (Only.cell_ _ _ _ _ (.inl rfl)))
  clear hx1 ho1 hb1 HX HF HBS HM HLi
  go_wp2_with fail
  generalize hv3 : (v1.setCell ⟨b, 4, none⟩ (.slice K1 nk1 ck1)).setCell ⟨b, 5, none⟩ (.slice none 0 0) = v3 at *
  have s3 : w.heap.size ≤ v3.heap.size := HON3.out.size
  clear hv3 c4 f4 c5 f5
  refine (HId.out _ HM3.out).mono ?_
  rintro e v4 ⟨n4, ids, rfl, ho4, hiff, hb4⟩
  have s4 : v3.heap.size ≤ v4.heap.size := hb4.size
  have hmb4 := ho4.lt
  have hb3 : b < v3.heap.size := HX3.out.lt
  have hba : Below v4.heap.size v4 (v4.alloc (.cells #[.map (some v3.heap.size)] 122)) := (Below.refl _ _).alloc (Nat.le_refl _) _
  have hb5 : Below v3.heap.size v3 (v4.alloc (.cells #[.map (some v3.heap.size)] 122)) := hb4.trans (hba.mono s4)
  have HX5 := Lib.hid (HX3.out.below hb5 hb3)
  have HF5 := Lib.hid (own_belowK HF3.out (Nat.le_refl _) hb5)
  have HBS5 := Lib.hid (HBS3.out.below (Nat.le_refl _) hb5)
  have HL5 := Lib.hid (own_belowK HL3.out (Nat.le_refl _) hb5)
  have HON5 := Lib.hid (HON3.out.trans (Only.new hb5))
  have HK := Lib.hid (kept_same hiff fs)
  have c3 := HX5.out.cell 3
  have HDel := Lib.hid (deleteF_any F nf cf base fs v4.heap.size v3.heap.size n4 ids (v4.alloc (.cells #[.map (some v3.heap.size)] 122)) HF5.out HFL.out hfn HW.out (by simp) (by rw [World.cell?_alloc_at _ _ _ _ rfl]; rfl) (ho4.alloc _) (fun g e => by
    subst e
    have := (World.ownsRow.lt HF3.out g rfl).2
    omega))
  clear HX3 HF3 HBS3 HL3 HON3 HM3 hb4 hb5 hba ho4 hiff HId
  go_wp2_with fail
  refine HDel.out.mono ?_
  rintro e v6 ⟨rfl, ho6, hg6⟩
  rw [HK.out] at ho6 ⊢
  have hx6 : BoxW v6 b #[x0, x1, x2, .slice F nf cf, .slice K1 nk1 ck1, .slice none 0 0] := by
    unfold BoxW
    rw [hg6.block b HX5.out.lt (fun e => hneF e.symm)]
    exact HX5.out
  have c6 := hx6.cell 3
  have f6 := hx6.free 3
  have hneF6 : (Value.slice F (keptF (l.map (·.2)) fs).length cf).ownBlock ≠ some b := fun e => hneF ((blk_any F nf (keptF (l.map (·.2)) fs).length cf cf).trans e)
  have HX7 := Lib.hid (hx6.set3 (.slice F (keptF (l.map (·.2)) fs).length cf))
  have HF7 := Lib.hid (own_setNe ho6 b 3 (.slice F (keptF (l.map (·.2)) fs).length cf) hneF6)
  have HB7 := Lib.hid (show OwnBs (v6.setCell ⟨b, 3, none⟩ (.slice F (keptF (l.map (·.2)) fs).length cf)) base (keptF (l.map (·.2)) fs) from
    have h6 := kept_sep (ids := l.map (·.2)) (OwnBs.grow HBS5.out HF5.out hg6)
    ⟨fun f h => own_setNe (h6.1 f h) b 3 _ (HNB.out f (kept_mem h)), h6.2⟩)
  have HL7 := Lib.hid (own_setNe (World.ownsRow.kept HL5.out hg6 (by
    rcases h : (Value.slice K1 nk1 ck1).ownBlock with _ | i
    · exact .inl rfl
    · exact .inr fun e => own_ne HL5.out HF5.out (by decide) i h e.symm)) b 3 (.slice F (keptF (l.map (·.2)) fs).length cf) hneL)
  have HON7 := Lib.hid ((HON5.out.trans (Only.grown hg6 (fun i h => .inr h))).trans (Only.cell_ v6 b 3 (.slice F (keptF (l.map (·.2)) fs).length cf) (.inl rfl)))
  clear hx6 ho6 hg6
  go_wp2_with fail
  go_end0
  exact ⟨K1, nk1, ck1, rfl, HX7.out, HF7.out, HB7.out, HL7.out, HON7.out⟩
end Go.Proofs.YtckiloacbanbmaaGreat.DOk
