/- Texts that lay in modules of their own: VbM, VbI. -/
import Derived.Test.YtfdbmhelcmifoaaDoorVpW
import Derived.Deep.AppendLies
import Derived.Deep.RegionWith
import Derived.Deep.DeepCutAuto
import Derived.Deep.DrawnRows
namespace Go.Proofs.YtfdbmhelcmifoaaDoor.Vp
open Go.RowKit Go.Proofs.YtfdbmhelcmifoaaDoor.Bytes Go.Proofs.YtfdbmhelcmifoaaDoor.DOk Go.Proofs.YtfdbmhelcmifoaaDoor.Rune Go.Proofs.YtfdbmhelcmifoaaDoor.RowK Go.Proofs.YtfdbmhelcmifoaaDoor.Gr
set_option linter.unusedVariables false
def foldV (p : VS × List AS) (b : Int) : VS × List AS := ((stepV p.1 b).1, if (stepV p.1 b).2.k = 0 then p.2 else p.2 ++ [(stepV p.1 b).2])
def runV (s : VS) (ys : List Int) : VS × List AS := ys.foldl foldV (s, [])
theorem runV_snoc (s : VS) (ys : List Int) (k : Nat) (h : k < ys.length) : runV s (ys.take (k + 1)) = foldV (runV s (ys.take k)) (ys.getD k 0) := by
  have e : ys.getD k 0 = ys[k] := by simp [List.getD, h]
  unfold runV; rw [List.take_succ_eq_append_getElem h, List.foldl_append, e]; rfl
theorem runV_0 (s : VS) (ys : List Int) : runV s (ys.take 0) = (s, []) := rfl
theorem runV_all (s : VS) (ys : List Int) {n : Nat} (h : ys.length = n) : runV s (ys.take n) = runV s ys := by rw [List.take_of_length_le (by omega)]
theorem runV_ok {s : VS} (hs : s.ok) : ∀ (ys : List Int), Rng ys → (runV s ys).1.ok := by
  unfold runV
  suffices h : ∀ (ys : List Int) (p : VS × List AS), p.1.ok → Rng ys → (ys.foldl foldV p).1.ok from fun ys hg => h ys (s, []) hs hg
  intro ys
  induction ys with
  | nil => intro p hp _; exact hp
  | cons y t ih =>
    intro p hp hg
    exact ih _ (stepV_ok hp (hg y (by simp)).1 (by have := (hg y (by simp)).2; omega)) (fun z hz => hg z (by simp [hz]))
theorem runV_len {s : VS} : ∀ (ys : List Int), (runV s ys).2.length ≤ ys.length := by
  unfold runV
  suffices h : ∀ (ys : List Int) (p : VS × List AS), (ys.foldl foldV p).2.length ≤ p.2.length + ys.length from fun ys => by have := h ys (s, []); simpa using this
  intro ys
  induction ys with
  | nil => intro p; simp
  | cons y t ih =>
    intro p
    have h := ih (foldV p y)
    have h2 : (foldV p y).2.length ≤ p.2.length + 1 := by unfold foldV; simp only; split <;> simp
    simp only [List.foldl_cons, List.length_cons]
    omega
theorem runV_small {s : VS} (hs : s.ok) : ∀ (ys : List Int), Rng ys → ∀ a ∈ (runV s ys).2, a.zs.length ≤ 8 := by
  unfold runV
  suffices h : ∀ (ys : List Int) (p : VS × List AS), p.1.ok → (∀ a ∈ p.2, a.zs.length ≤ 8) → Rng ys → ∀ a ∈ (ys.foldl foldV p).2, a.zs.length ≤ 8 from fun ys hg => h ys (s, []) hs (by simp) hg
  intro ys
  induction ys with
  | nil => intro p _ h _; exact h
  | cons y t ih =>
    intro p hp h hg
    refine ih _ (stepV_ok hp (hg y (by simp)).1 (by have := (hg y (by simp)).2; omega)) ?_ (fun z hz => hg z (by simp [hz]))
    intro a ha
    unfold foldV at ha
    simp only at ha
    split at ha
    · exact h a ha
    · rcases List.mem_append.1 ha with ha | ha
      · exact h a ha
      · simp at ha; subst ha; exact stepV_act hp
/-- an act in memory -/
structure ActD where
  k : Int
  r : Int
  q : Bool
  A : Option Addr
  n : Nat
  c : Nat
  zs : List Int
def ActD.a (d : ActD) : AS := ⟨d.k, d.r, d.q, d.zs⟩
def actR (d : ActD) : List Value := [.int .i64 d.k, .int .i64 d.r, .bool d.q, .slice d.A d.n d.c]
theorem actR_len (d : ActD) : (actR d).length = 4 := rfl
def OwnF4 (w : World) (base : Nat) (F : Option Addr) (n c : Nat) (ds : List ActD) : Prop := w.ownsRow base 53 4 (.slice F n c) n (ds.map actR).flatten
/-- the arguments of acts: each owned, no two of one block -/
structure OwnAs (w : World) (base : Nat) (ds : List ActD) : Prop where
  own : ∀ d ∈ ds, OwnI w base d.A d.n d.c d.zs
  sep : ds.Pairwise fun d e => ∀ i, Blk d.A d.n d.c i → ¬ Blk e.A e.n e.c i
theorem ownF4_len {w : World} {base : Nat} {F : Option Addr} {n c : Nat} {ds : List ActD} (h : OwnF4 w base F n c ds) : ds.length = n := by
  have h1 := h.1
  rw [flat_len 4 _ (by intro r hr; obtain ⟨d, _, rfl⟩ := List.mem_map.1 hr; rfl)] at h1
  simp at h1; omega
theorem ownF4_nil (w : World) (B : Nat) : OwnF4 w B none 0 0 [] := World.ownsRow_nil w B _ _
theorem OwnAs.nil (w : World) (B : Nat) : OwnAs w B [] := ⟨by simp, List.Pairwise.nil⟩
theorem OwnAs.only {S : Nat → Prop} {w w' : World} {base : Nat} {ds : List ActD} (h : OwnAs w base ds) (on : Only S w w') (hS : ∀ d ∈ ds, ∀ i, Blk d.A d.n d.c i → ¬ S i) : OwnAs w' base ds :=
  ⟨fun d hd => Only.own (h.own d hd) on (hS d hd), h.sep⟩
theorem OwnAs.below {w w' : World} {base B : Nat} {ds : List ActD} (h : OwnAs w base ds) (hB : w.heap.size ≤ B) (hb : Below B w w') : OwnAs w' base ds := ⟨fun d hd => (h.own d hd).below hB hb, h.sep⟩
theorem OwnAs.more {w : World} {base base' : Nat} {ds : List ActD} (h : OwnAs w base ds) (hB : base' ≤ base) : OwnAs w base' ds := ⟨fun d hd => (h.own d hd).more hB, h.sep⟩
theorem OwnAs.snoc {w : World} {base : Nat} {ds : List ActD} {d : ActD} (h : OwnAs w base ds) (hd : OwnI w base d.A d.n d.c d.zs) (hs : ∀ e ∈ ds, ∀ i, Blk e.A e.n e.c i → ¬ Blk d.A d.n d.c i) : OwnAs w base (ds ++ [d]) := by
  refine ⟨fun e he => ?_, ?_⟩
  · rcases List.mem_append.1 he with he | he
    · exact h.own e he
    · simp at he; subst he; exact hd
  · rw [List.pairwise_append]
    exact ⟨h.sep, List.pairwise_singleton _ _, fun a ha b hb => by simp at hb; subst hb; exact hs a ha⟩
theorem actInfo : (Tryd.prog.info? 53).map (fun i => (i.zero, i.size, i.bytes)) = some (some (.agg #[.int .i64 0, .int .i64 0, .bool false, .slice none 0 0]), 4, 48) := by kernel_rfl
/-- 'acts = append(acts, a)' -/
theorem append_act {wr : World} {ops : Array Oper} {rest : List Oper} {o : Oper} {a : Act} {Q : Exit → Act → World → Prop} (hgd : o.guard = none) (s x : Operand)
    (ho : o.op = .call { callee := .builtin .append, args := #[s, x], argTypes := #[62, 62] })
    {base n c : Nat} {F : Option Addr} {ds : List ActD} {d : ActD} (hs : a.eval s = .slice F n c) (H : Nat) (hH : wr.heap.size = H) (hx : a.eval x = .slice (some ⟨H, 0, none⟩) 1 1)
    (hown : OwnF4 wr base F n c ds) (hn : n ≤ 1000000000) (hbase : base ≤ wr.heap.size)
    (h : ∀ F' c' w', OwnF4 w' base F' (n + 1) c' (ds ++ [d]) → wr.grownBy w' (Value.slice F n c).ownBlock → wpList Tryd.prog ops Q rest (a.put o.dst (.slice F' (n + 1) c')) w') :
    wpList Tryd.prog ops Q (o :: rest) a (wr.alloc (.cells #[.int .i64 d.k, .int .i64 d.r, .bool d.q, .slice d.A d.n d.c] 53)) := by
  subst hH
  obtain ⟨i0, hi, hz0, hz1, hz2⟩ := info_parts actInfo
  refine wpList_append_own _ hgd s x 62 ho base 53 i0 (.agg #[.int .i64 0, .int .i64 0, .bool false, .slice none 0 0]) 4 48 Tryd.underlying62 hi hz0 hz1 hz2 rfl (by decide) _ _ _ hs (World.ownsRow.alloc hown _) ⟨wr.heap.size, 0, none⟩ 1 1 [.int .i64 d.k, .int .i64 d.r, .bool d.q, .slice d.A d.n d.c] hx rfl
    (World.news_of_block (cs := #[.int .i64 d.k, .int .i64 d.r, .bool d.q, .slice d.A d.n d.c]) (t := 53) (fr := (0, 0)) (heap_alloc_new wr _)) (by intro u hu; simp at hu; rcases hu with rfl | rfl | rfl | rfl <;> rfl) ?_ ?_ ?_ ?_
  · unfold maxLen; omega
  · omega
  · simp; omega
  · intro v' w' hown' hgrow _
    have e : (ds.map actR).flatten ++ [.int .i64 d.k, .int .i64 d.r, .bool d.q, .slice d.A d.n d.c] = ((ds ++ [d]).map actR).flatten := by simp [actR]
    rw [e] at hown'
    obtain ⟨A', c', rfl⟩ := own_shapeK hown'
    exact h A' c' w' hown' (grown_trans (World.grownBy_alloc wr _ _) hgrow)
end Go.Proofs.YtfdbmhelcmifoaaDoor.Vp
namespace Go.Proofs.YtfdbmhelcmifoaaDoor.Vp
open Go.RowKit Go.Proofs.YtfdbmhelcmifoaaDoor.Bytes Go.Proofs.YtfdbmhelcmifoaaDoor.DOk Go.Proofs.YtfdbmhelcmifoaaDoor.Rune Go.Proofs.YtfdbmhelcmifoaaDoor.RowK Go.Proofs.YtfdbmhelcmifoaaDoor.Gr
set_option linter.unusedVariables false
attribute [local go_sem ↓] Go.wp_at_zero Go.wp_at_succ
/-- what holds at the head of the loop over the bytes, in the program -/
def LoopI (W0 : World) (base g : Nat) (s : VS) (ys : List Int) (acts i : Value) (wr : World) : Prop :=
  ∃ (k : Nat) (A : Option Addr) (na ca : Nat) (P : Option Addr) (np cp : Nat) (F : Option Addr) (n c : Nat) (ds : List ActD), k ≤ ys.length ∧ i = .int .i64 k ∧ acts = .slice F n c ∧
    Par wr base g (runV s (ys.take k)).1 A na ca P np cp ∧ OwnF4 wr base F n c ds ∧ OwnAs wr base ds ∧ ds.map ActD.a = (runV s (ys.take k)).2 ∧ (∀ d ∈ ds, ∀ i, Blk d.A d.n d.c i → ¬ Blk A na ca i) ∧ Below base W0 wr
theorem own4_ne {w : World} {base base' : Nat} {F : Option Addr} {n c : Nat} {ds : List ActD} {A : Option Addr} {na ca : Nat} {zs : List Int} (h : OwnF4 w base F n c ds) (hi : OwnI w base' A na ca zs) : ∀ i, Blk F n c i → ¬ Blk A na ca i := fun i h1 h2 => own_ne h hi (by decide) i h1 h2
theorem own4_neP {w : World} {base base' : Nat} {F : Option Addr} {n c : Nat} {ds : List ActD} {A : Option Addr} {na ca : Nat} {zs : List Int} (h : OwnF4 w base F n c ds) (hi : Own w base' A na ca zs) : ∀ i, Blk F n c i → ¬ Blk A na ca i := fun i h1 h2 => own_ne h hi (by decide) i h1 h2
section
variable {W0 wr w2 : World} {base g : Nat} {s : VS} {ys : List Int} {k : Nat} {A : Option Addr} {na ca : Nat} {P : Option Addr} {np cp : Nat} {F : Option Addr} {n c : Nat} {ds : List ActD} {r : VS × AS} {A9 : Option Addr} {n9 c9 : Nat} {P9 : Option Addr} {p9 d9 : Nat} {A8 : Option Addr} {n8 c8 : Nat}
/-- what the step leaves of the acts that were there -/
theorem stepI (hP : Par wr base g (runV s (ys.take k)).1 A na ca P np cp) (h4 : OwnF4 wr base F n c ds) (hA : OwnAs wr base ds) (hs : ∀ d ∈ ds, ∀ i, Blk d.A d.n d.c i → ¬ Blk A na ca i) (on : Only (SP g A na ca P np cp) wr w2) :
    OwnF4 w2 base F n c ds ∧ OwnAs w2 base ds := by
  refine ⟨Only.own h4 on fun i hi hS => ?_, hA.only on fun d hd i hi hS => ?_⟩
  · rcases hS with h | h | h
    · exact boxP_ne hP.bx h4 (by decide) (by rw [← h]; exact hi)
    · exact own4_ne h4 hP.i i hi h
    · exact own4_neP h4 hP.b i hi h
  · rcases hS with h | h | h
    · exact boxP_ne hP.bx (hA.own d hd) (by decide) (by rw [← h]; exact hi)
    · exact hs d hd i hi h
    · exact own_ne (hA.own d hd) hP.b (by decide) i hi h
theorem loopI_keep (hk : k < ys.length) (hP : Par wr base g (runV s (ys.take k)).1 A na ca P np cp) (h4 : OwnF4 wr base F n c ds) (hA : OwnAs wr base ds) (hm : ds.map ActD.a = (runV s (ys.take k)).2) (hs : ∀ d ∈ ds, ∀ i, Blk d.A d.n d.c i → ¬ Blk A na ca i) (hb : Below base W0 wr) (hB : base ≤ wr.heap.size) (hg : base ≤ g)
    (hr : r = stepV (runV s (ys.take k)).1 (ys.getD k 0)) (h0 : r.2.k = 0) (hp2 : Par w2 base g r.1 A9 n9 c9 P9 p9 d9) (hfa : ∀ i, Blk A9 n9 c9 i → Blk A na ca i ∨ wr.heap.size ≤ i) (on : Only (SP g A na ca P np cp) wr w2) (o : Obj) :
    LoopI W0 base g s ys (.slice F n c) (.int .i64 ((k : Int) + 1)) (w2.alloc o) := by
  obtain ⟨h5, h6⟩ := stepI hP h4 hA hs on
  have e : runV s (ys.take (k + 1)) = (r.1, (runV s (ys.take k)).2) := by rw [runV_snoc s ys k hk]; unfold foldV; rw [← hr, if_pos h0]
  refine ⟨k + 1, A9, n9, c9, P9, p9, d9, F, n, c, ds, by omega, by go_num, rfl, ?_, World.ownsRow.alloc h5 _, h6.only (alloc_only (S := fun _ => False) _ _) (fun _ _ _ _ h => h), by rw [e]; exact hm, fun d hd i hi h => ?_, ?_⟩
  · rw [e]; exact hp2.below ((Below.refl _ _).alloc (Nat.le_refl _) _) (Nat.le_refl _)
  · rcases hfa i h with h | h
    · exact hs d hd i hi h
    · have := ((hA.own d hd).blk i hi).2; omega
  · have h7 := on.below_ hb hB (fun i hi => hP.sp hg i hi)
    exact h7.alloc (Nat.le_trans hB on.size) _
theorem loopI_app {w3 : World} {F' : Option Addr} {c' : Nat} {o : Obj} (hk : k < ys.length) (hP : Par wr base g (runV s (ys.take k)).1 A na ca P np cp) (h4 : OwnF4 wr base F n c ds) (hA : OwnAs wr base ds) (hm : ds.map ActD.a = (runV s (ys.take k)).2) (hs : ∀ d ∈ ds, ∀ i, Blk d.A d.n d.c i → ¬ Blk A na ca i) (hb : Below base W0 wr) (hB : base ≤ wr.heap.size) (hg : base ≤ g)
    (hr : r = stepV (runV s (ys.take k)).1 (ys.getD k 0)) (h0 : ¬ r.2.k = 0) (hp2 : Par w2 base g r.1 A9 n9 c9 P9 p9 d9) (hi2 : OwnI w2 base A8 n8 c8 r.2.zs) (hfa : ∀ i, Blk A9 n9 c9 i → Blk A na ca i ∨ wr.heap.size ≤ i) (hf8 : ∀ i, Blk A8 n8 c8 i → Blk A na ca i ∨ wr.heap.size ≤ i) (hap : A8 = none ∨ A9 = none) (on : Only (SP g A na ca P np cp) wr w2)
    (h7 : OwnF4 w3 base F' (n + 1) c' (ds ++ [⟨r.2.k, r.2.r, r.2.q, A8, n8, c8, r.2.zs⟩])) (hgr : (w2.alloc o).grownBy w3 (Value.slice F n c).ownBlock) :
    LoopI W0 base g s ys (.slice F' (n + 1) c') (.int .i64 ((k : Int) + 1)) w3 := by
  obtain ⟨h5, h6⟩ := stepI hP h4 hA hs on
  have e : runV s (ys.take (k + 1)) = (r.1, (runV s (ys.take k)).2 ++ [r.2]) := by rw [runV_snoc s ys k hk]; unfold foldV; rw [← hr, if_neg h0]
  have on3 : Only (fun i => Blk F n c i) w2 w3 := (alloc_only w2 o).trans (Only.grown hgr fun i hi => hi)
  have hp3 : Par w3 base g r.1 A9 n9 c9 P9 p9 d9 := hp2.only on3 (fun h => boxP_ne hp2.bx h5 (by decide) h) (fun i h1 h2 => own4_ne h5 hp2.i i h2 h1) (fun i h1 h2 => own4_neP h5 hp2.b i h2 h1)
  have hds : ∀ d ∈ ds, ∀ i, Blk d.A d.n d.c i → ¬ Blk A8 n8 c8 i := fun d hd i hi h => by
    rcases hf8 i h with h | h
    · exact hs d hd i hi h
    · have := ((hA.own d hd).blk i hi).2; omega
  have h8 : OwnAs w3 base ds := h6.only on3 fun d hd i h1 h2 => own4_ne h5 (h6.own d hd) i h2 h1
  have h9 : OwnI w3 base A8 n8 c8 r.2.zs := Only.own hi2 on3 fun i h1 h2 => own4_ne h5 hi2 i h2 h1
  refine ⟨k + 1, A9, n9, c9, P9, p9, d9, F', n + 1, c', _, by omega, by go_num, rfl, by rw [e]; exact hp3, h7, h8.snoc h9 hds, by rw [e, List.map_append, hm]; rfl, fun d hd i hi h => ?_, ?_⟩
  · rcases List.mem_append.1 hd with hd | hd
    · rcases hfa i h with h | h
      · exact hs d hd i hi h
      · have := ((hA.own d hd).blk i hi).2; omega
    · simp at hd; subst hd
      rcases hap with h' | h'
      · simp only [h'] at hi; cases hi
      · simp only [h'] at h; cases h
  · have h10 := on.below_ hb hB (fun i hi => hP.sp hg i hi)
    exact on3.below_ h10 (Nat.le_trans hB on.size) (fun i hi => (World.ownsRow.lt h5 i hi).1)
end
end Go.Proofs.YtfdbmhelcmifoaaDoor.Vp
