/- The program's parser: the variable of an act, what a method leaves that answers one. -/
import Derived.Test.YtfdbmhelcmifoaaDoorVpQ
namespace Go.Proofs.YtfdbmhelcmifoaaDoor.Vp
open Go.RowKit Go.Proofs.YtfdbmhelcmifoaaDoor.Bytes Go.Proofs.YtfdbmhelcmifoaaDoor.DOk Go.Proofs.YtfdbmhelcmifoaaDoor.Rune Go.Proofs.YtfdbmhelcmifoaaDoor.RowK Go.Proofs.YtfdbmhelcmifoaaDoor.Gr
set_option linter.unusedVariables false
def BoxA (w : World) (b : Nat) (cs : Array Value) : Prop := w.heap[b]? = some (.cells cs 53 (0, 0))
theorem BoxA.lt {w : World} {b : Nat} {cs : Array Value} (h : BoxA w b cs) : b < w.heap.size := (Array.getElem?_eq_some_iff.1 h).1
theorem BoxA.cell {w : World} {b : Nat} {cs : Array Value} (h : BoxA w b cs) (j : Nat) : w.cell? ⟨b, j, none⟩ = cs[j]? := by unfold BoxA at h; simp [World.cell?, h]
theorem BoxA.free {w : World} {b : Nat} {cs : Array Value} (h : BoxA w b cs) (j : Nat) : w.frozen? ⟨b, j, none⟩ = false := by unfold BoxA at h; simp [World.frozen?, h]
theorem BoxA.below {w w' : World} {b B : Nat} {cs : Array Value} (h : BoxA w b cs) (hb : Below B w w') (hB : b < B) : BoxA w' b cs := by unfold BoxA at h ⊢; rw [hb.block b hB]; exact h
theorem BoxA.only {S : Nat → Prop} {w w' : World} {b : Nat} {cs : Array Value} (h : BoxA w b cs) (on : Only S w w') (hn : ¬ S b) : BoxA w' b cs := by
  have hl := h.lt
  unfold BoxA at h ⊢; rw [on.block b hl hn]; exact h
theorem BoxA.drew {w : World} {b : Nat} {cs : Array Value} (h : BoxA w b cs) : BoxA w.drew b cs := h
theorem BoxA.other {w : World} {b b' j : Nat} {cs : Array Value} {v : Value} (h : BoxA w b cs) (hne : b ≠ b') : BoxA (w.setCell ⟨b', j, none⟩ v) b cs := by
  unfold BoxA at h ⊢; rw [← h]; simp [World.setCell, Array.getElem?_modify, Ne.symm hne]
theorem BoxA.set0 {w : World} {b : Nat} {x0 x1 x2 x3 : Value} (h : BoxA w b #[x0, x1, x2, x3]) (v : Value) : BoxA (w.setCell ⟨b, 0, none⟩ v) b #[v, x1, x2, x3] := by
  unfold BoxA at h ⊢; simp [World.setCell, Array.getElem?_modify, h]
theorem BoxA.set1 {w : World} {b : Nat} {x0 x1 x2 x3 : Value} (h : BoxA w b #[x0, x1, x2, x3]) (v : Value) : BoxA (w.setCell ⟨b, 1, none⟩ v) b #[x0, v, x2, x3] := by
  unfold BoxA at h ⊢; simp [World.setCell, Array.getElem?_modify, h]
theorem BoxA.set2 {w : World} {b : Nat} {x0 x1 x2 x3 : Value} (h : BoxA w b #[x0, x1, x2, x3]) (v : Value) : BoxA (w.setCell ⟨b, 2, none⟩ v) b #[x0, x1, v, x3] := by
  unfold BoxA at h ⊢; simp [World.setCell, Array.getElem?_modify, h]
theorem BoxA.set3 {w : World} {b : Nat} {x0 x1 x2 x3 : Value} (h : BoxA w b #[x0, x1, x2, x3]) (v : Value) : BoxA (w.setCell ⟨b, 3, none⟩ v) b #[x0, x1, x2, v] := by
  unfold BoxA at h ⊢; simp [World.setCell, Array.getElem?_modify, h]
theorem BoxA.new (w : World) (cs : Array Value) : BoxA (w.alloc (.cells cs 53)) w.heap.size cs := heap_alloc_new w _
theorem BoxA.cells {w : World} {b : Nat} {v0 v1 v2 v3 : Value} (h : BoxA w b #[v0, v1, v2, v3]) : (w.cell? ⟨b, 0, none⟩ = some v0 ∧ w.cell? ⟨b, 1, none⟩ = some v1 ∧ w.cell? ⟨b, 2, none⟩ = some v2 ∧ w.cell? ⟨b, 3, none⟩ = some v3) ∧ (w.frozen? ⟨b, 0, none⟩ = false ∧ w.frozen? ⟨b, 1, none⟩ = false ∧ w.frozen? ⟨b, 2, none⟩ = false ∧ w.frozen? ⟨b, 3, none⟩ = false) :=
  ⟨⟨h.cell 0, h.cell 1, h.cell 2, h.cell 3⟩, ⟨h.free 0, h.free 1, h.free 2, h.free 3⟩⟩
theorem Par.cells {w : World} {base g : Nat} {s : VS} {A : Option Addr} {na ca : Nat} {P : Option Addr} {np cp : Nat} (h : Par w base g s A na ca P np cp) : (w.cell? ⟨g, 0, none⟩ = some (.int .i64 s.st) ∧ w.cell? ⟨g, 1, none⟩ = some (.bool s.q) ∧ w.cell? ⟨g, 2, none⟩ = some (.slice A na ca) ∧ w.cell? ⟨g, 3, none⟩ = some (.slice P np cp) ∧ w.cell? ⟨g, 4, none⟩ = some (fnOf g s.st)) ∧ (w.frozen? ⟨g, 0, none⟩ = false ∧ w.frozen? ⟨g, 1, none⟩ = false ∧ w.frozen? ⟨g, 2, none⟩ = false ∧ w.frozen? ⟨g, 3, none⟩ = false ∧ w.frozen? ⟨g, 4, none⟩ = false) :=
  ⟨⟨h.bx.cell 0, h.bx.cell 1, h.bx.cell 2, h.bx.cell 3, h.bx.cell 4⟩, ⟨h.bx.free 0, h.bx.free 1, h.bx.free 2, h.bx.free 3, h.bx.free 4⟩⟩
theorem drewN_only {S : Nat → Prop} (w : World) (j : Nat) : Only S w (w.drewN j) := ⟨rfl, rfl, rfl, Nat.le_refl _, fun _ _ _ => rfl⟩
theorem drew_only {S : Nat → Prop} (w : World) : Only S w w.drew := ⟨rfl, rfl, rfl, Nat.le_refl _, fun _ _ _ => rfl⟩
theorem alloc_only {S : Nat → Prop} (w : World) (o : Obj) : Only S w (w.alloc o) := Only.below ((Below.refl _ _).alloc (Nat.le_refl _) _) (Nat.le_refl _)
theorem only_then {S T : Nat → Prop} {a b c : World} (h : Only S a b) (k : Only T b c) (hT : ∀ i, i < a.heap.size → T i → S i) : Only S a c :=
  ⟨k.os.trans h.os, k.tape.trans h.tape, k.output.trans h.output, Nat.le_trans h.size k.size, fun i hi hn => (k.block i (Nat.lt_of_lt_of_le hi h.size) fun ht => hn (hT i hi ht)).trans (h.block i hi hn)⟩
/-- what a method of the parser leaves that answers an act -/
def Ans (w : World) (base g : Nat) (A : Option Addr) (na ca : Nat) (P : Option Addr) (np cp : Nat) (s' : VS) (a : AS) (e : Ending) (w' : World) : Prop :=
  ∃ A' na' ca' P' np' cp' A2 n2 c2, e = .returned (.agg #[.int .i64 a.k, .int .i64 a.r, .bool a.q, .slice A2 n2 c2]) ∧ Par w' base g s' A' na' ca' P' np' cp' ∧ OwnI w' base A2 n2 c2 a.zs ∧
    (∀ i, Blk A' na' ca' i → Blk A na ca i ∨ w.heap.size ≤ i) ∧ (∀ i, Blk P' np' cp' i → Blk P np cp i ∨ w.heap.size ≤ i) ∧ (∀ i, Blk A2 n2 c2 i → Blk A na ca i ∨ w.heap.size ≤ i) ∧ (A2 = none ∨ A' = none) ∧ Only (SP g A na ca P np cp) w w'
theorem ownI_nil (w : World) (B : Nat) : OwnI w B none 0 0 [] := World.ownsRow_nil w B _ _
theorem Mth.ans {w : World} {base g : Nat} {A : Option Addr} {na ca : Nat} {P : Option Addr} {np cp : Nat} {s' : VS} {e : Ending} {w' : World} (h : Mth w base g A na ca P np cp s' e w') (k r : Int) (q : Bool) :
    Ans w base g A na ca P np cp s' ⟨k, r, q, []⟩ (.returned (.agg #[.int .i64 k, .int .i64 r, .bool q, .slice none 0 0])) w' := by
  obtain ⟨A', na', ca', P', np', cp', _, h2, h3, h4, h5⟩ := h
  exact ⟨A', na', ca', P', np', cp', none, 0, 0, rfl, h2, ownI_nil _ _, h3, h4, fun i hi => (by cases hi), .inl rfl, h5⟩
theorem mth_refl {w : World} {base g : Nat} {s : VS} {A : Option Addr} {na ca : Nat} {P : Option Addr} {np cp : Nat} (h : Par w base g s A na ca P np cp) : Mth w base g A na ca P np cp s (.returned (.tuple #[])) w :=
  ⟨A, na, ca, P, np, cp, rfl, h, fun i hi => .inl hi, fun i hi => .inl hi, Only.refl _ _⟩
theorem Par.only {w w' : World} {base g : Nat} {s : VS} {A : Option Addr} {na ca : Nat} {P : Option Addr} {np cp : Nat} {T : Nat → Prop} (h : Par w base g s A na ca P np cp) (on : Only T w w') (hg : ¬ T g) (hA : ∀ i, Blk A na ca i → ¬ T i) (hP : ∀ i, Blk P np cp i → ¬ T i) : Par w' base g s A na ca P np cp :=
  ⟨h.bx.only on hg, Only.own h.i on hA, Only.own h.b on hP⟩
theorem Par.below {w w' : World} {base g B : Nat} {s : VS} {A : Option Addr} {na ca : Nat} {P : Option Addr} {np cp : Nat} (h : Par w base g s A na ca P np cp) (hb : Below B w w') (hB : w.heap.size ≤ B) : Par w' base g s A na ca P np cp :=
  ⟨h.bx.below hb (Nat.lt_of_lt_of_le h.bx.lt hB), h.i.below hB hb, h.b.below hB hb⟩
theorem ans_wrapO {w w0 w1 W' : World} {base g : Nat} {s' : VS} {A : Option Addr} {na ca : Nat} {P : Option Addr} {np cp : Nat} {a : AS} {e : Ending} {T : Nat → Prop} (hg : g < w.heap.size) (hA : ∀ i, Blk A na ca i → i < w.heap.size) (hP : ∀ i, Blk P np cp i → i < w.heap.size) (hW : Only (SP g A na ca P np cp) w w0) (h : Ans w0 base g A na ca P np cp s' a e w1) (hT : Only T w1 W') (hTl : ∀ i, T i → w.heap.size ≤ i ∧ i < w0.heap.size) :
    Ans w base g A na ca P np cp s' a e W' := by
  obtain ⟨A', na', ca', P', np', cp', A2, n2, c2, he, h2, h3, h4, h5, h6, h7, h8⟩ := h
  have hs := hW.size
  have nT : ∀ i, (Blk A na ca i ∨ w0.heap.size ≤ i) → ¬ T i := fun i hi ht => by
    have := hTl i ht
    rcases hi with hi | hi
    · have := hA i hi; omega
    · omega
  have nT2 : ∀ i, (Blk P np cp i ∨ w0.heap.size ≤ i) → ¬ T i := fun i hi ht => by
    have := hTl i ht
    rcases hi with hi | hi
    · have := hP i hi; omega
    · omega
  have up : ∀ {X : Nat → Prop} (i : Nat), (X i ∨ w0.heap.size ≤ i) → (X i ∨ w.heap.size ≤ i) := fun i hi => hi.imp id fun h => Nat.le_trans hs h
  refine ⟨A', na', ca', P', np', cp', A2, n2, c2, he, h2.only hT (fun ht => ?_) (fun i hi => nT i (h4 i hi)) (fun i hi => nT2 i (h5 i hi)), Only.own h3 hT (fun i hi => nT i (h6 i hi)), fun i hi => up i (h4 i hi), fun i hi => up i (h5 i hi), fun i hi => up i (h6 i hi), h7, ?_⟩
  · have := hTl g ht; omega
  · exact only_then (Only.trans hW (h8.mono fun i hi => hi)) hT (fun i hi ht => by have := hTl i ht; omega)
theorem ans_wrapG {w w0 w1 W' : World} {base g : Nat} {s' : VS} {A : Option Addr} {na ca : Nat} {P : Option Addr} {np cp : Nat} {a : AS} {e : Ending} {T : Nat → Prop} (hg : g < w.heap.size) (hA : ∀ i, Blk A na ca i → i < w.heap.size) (hP : ∀ i, Blk P np cp i → i < w.heap.size) (hW : Below w.heap.size w w0) (h : Ans w0 base g A na ca P np cp s' a e w1) (hT : Only T w1 W') (hTl : ∀ i, T i → w.heap.size ≤ i ∧ i < w0.heap.size) :
    Ans w base g A na ca P np cp s' a e W' := ans_wrapO hg hA hP (Only.below hW (Nat.le_refl _)) h hT hTl
theorem ans_wrap {w w0 w1 W' : World} {base g : Nat} {s s' : VS} {A : Option Addr} {na ca : Nat} {P : Option Addr} {np cp : Nat} {a : AS} {e : Ending} {T : Nat → Prop} (hp : Par w base g s A na ca P np cp) (hW : Below w.heap.size w w0) (h : Ans w0 base g A na ca P np cp s' a e w1) (hT : Only T w1 W') (hTl : ∀ i, T i → w.heap.size ≤ i ∧ i < w0.heap.size) :
    Ans w base g A na ca P np cp s' a e W' := ans_wrapG hp.bx.lt (fun i hi => (hp.ltA i hi).2) (fun i hi => (hp.ltP i hi).2) hW h hT hTl
theorem Ans.trans {a b c : World} {base g : Nat} {A : Option Addr} {na ca : Nat} {P : Option Addr} {np cp : Nat} {A1 : Option Addr} {na1 ca1 : Nat} {P1 : Option Addr} {np1 cp1 : Nat} {s' : VS} {x : AS} {e : Ending} (hA : ∀ i, Blk A1 na1 ca1 i → Blk A na ca i ∨ a.heap.size ≤ i) (hP : ∀ i, Blk P1 np1 cp1 i → Blk P np cp i ∨ a.heap.size ≤ i) (on : Only (SP g A na ca P np cp) a b) (h : Ans b base g A1 na1 ca1 P1 np1 cp1 s' x e c) : Ans a base g A na ca P np cp s' x e c := by
  obtain ⟨A', na', ca', P', np', cp', A2, n2, c2, he, h2, h3, h4, h5, h6, h7, h8⟩ := h
  have hs := on.size
  have up : ∀ {X : Nat → Prop} (i : Nat), (Blk A1 na1 ca1 i ∨ b.heap.size ≤ i) → (Blk A na ca i ∨ a.heap.size ≤ i) := fun i hi => hi.elim (hA i) fun h => .inr (Nat.le_trans hs h)
  refine ⟨A', na', ca', P', np', cp', A2, n2, c2, he, h2, h3, fun i hi => up (X := fun _ => True) i (h4 i hi), fun i hi => (h5 i hi).elim (hP i) fun h => .inr (Nat.le_trans hs h), fun i hi => up (X := fun _ => True) i (h6 i hi), h7, only_then on h8 fun i hi ht => ?_⟩
  rcases ht with h | h | h
  · exact .inl h
  · rcases hA i h with h | h
    · exact .inr (.inl h)
    · omega
  · rcases hP i h with h | h
    · exact .inr (.inr h)
    · omega
/-- the decoder's tables lie below the parser's blocks -/
def TabsB (base : Nat) (w : World) : Prop := ∃ w0, Dec.Tabs8 w0 ∧ w0.heap.size ≤ base ∧ Below w0.heap.size w0 w
theorem TabsB.at_ {base : Nat} {w W : World} (h : TabsB base w) (hb : Below w.heap.size w W) : Dec.Tabs8 W := by
  obtain ⟨w0, t, l, b⟩ := h
  exact tabs_below t (b.trans (hb.mono b.size))
theorem TabsB.only {base : Nat} {w W : World} {S : Nat → Prop} (h : TabsB base w) (on : Only S w W) (hS : ∀ i, S i → base ≤ i) (hb : base ≤ w.heap.size) : TabsB base W := by
  obtain ⟨w0, t, l, b⟩ := h
  exact ⟨w0, t, l, on.below_ b (Nat.le_trans l hb) fun i hi => Nat.le_trans l (hS i hi)⟩
theorem TabsB.below {base B : Nat} {w W : World} (h : TabsB base w) (hb : Below B w W) (hB : base ≤ B) : TabsB base W := by
  obtain ⟨w0, t, l, b⟩ := h
  exact ⟨w0, t, l, b.trans (hb.mono (Nat.le_trans l hB))⟩
theorem Par.sp {w : World} {base g : Nat} {s : VS} {A : Option Addr} {na ca : Nat} {P : Option Addr} {np cp : Nat} (h : Par w base g s A na ca P np cp) (hg : base ≤ g) : ∀ i, SP g A na ca P np cp i → base ≤ i := fun i hi => by
  rcases hi with hi | hi | hi
  · omega
  · exact (h.ltA i hi).1
  · exact (h.ltP i hi).1
theorem ownLt {w : World} {base : Nat} {B : Option Addr} {nB cB : Nat} {ys : List Int} (h : Own w base B nB cB ys) : ∀ i, Blk B nB cB i → i < w.heap.size := fun i hi => (h.blk i hi).2
theorem par_part {w : World} {base g : Nat} {st : Int} {q : Bool} {zs bs ys : List Int} {A : Option Addr} {na ca : Nat} {P : Option Addr} {np cp : Nat} {B : Option Addr} {nB cB : Nat} (h : Par w base g ⟨st, q, zs, bs⟩ A na ca P np cp) (hB : Own w base B nB cB ys) :
    Par (w.setCell ⟨g, 3, none⟩ (.slice B nB cB)) base g ⟨st, q, zs, ys⟩ A na ca B nB cB := by
  have hx : BoxP w g #[.int .i64 st, .bool q, .slice A na ca, .slice P np cp, fnOf g st] := h.bx
  exact ⟨hx.set3 _, own_setNe h.i g 3 _ h.nA, own_setNe hB g 3 _ (boxP_ne h.bx hB (by decide))⟩
theorem mth_part {w : World} {base g : Nat} {st : Int} {q : Bool} {zs bs ys : List Int} {A : Option Addr} {na ca : Nat} {P : Option Addr} {np cp : Nat} {B : Option Addr} {nB cB : Nat} (h : Par w base g ⟨st, q, zs, bs⟩ A na ca P np cp) (hB : Own w base B nB cB ys) :
    Mth w base g A na ca B nB cB ⟨st, q, zs, ys⟩ (.returned (.tuple #[])) (w.setCell ⟨g, 3, none⟩ (.slice B nB cB)) := by
  have hx : BoxP w g #[.int .i64 st, .bool q, .slice A na ca, .slice P np cp, fnOf g st] := h.bx
  exact ⟨A, na, ca, B, nB, cB, rfl, ⟨hx.set3 _, own_setNe h.i g 3 _ h.nA, own_setNe hB g 3 _ (boxP_ne h.bx hB (by decide))⟩, fun i hi => .inl hi, fun i hi => .inl hi, Only.cell_ w g 3 _ (.inl rfl)⟩
theorem mth_stay {w : World} {base g : Nat} {s : VS} {A : Option Addr} {na ca : Nat} {B : Option Addr} {nB cB : Nat} (h : Par w base g s A na ca none 0 0) : Mth w base g A na ca B nB cB s (.returned (.tuple #[])) w :=
  ⟨A, na, ca, none, 0, 0, rfl, h, fun i hi => .inl hi, fun i hi => (by cases hi), Only.refl _ _⟩
theorem put4 (w : World) (b : Nat) (x0 x1 x2 x3 : Value) : Only (· = b) w ((((w.setCell ⟨b, 0, none⟩ x0).setCell ⟨b, 1, none⟩ x1).setCell ⟨b, 2, none⟩ x2).setCell ⟨b, 3, none⟩ x3) := by
  have oc := fun (W : World) (j : Nat) (v : Value) => Only.cell_ (S := fun i => i = b) W b j v rfl
  exact (((oc w 0 x0).trans (oc _ 1 x1)).trans (oc _ 2 x2)).trans (oc _ 3 x3)
theorem mth_bec {w : World} {base g : Nat} {s : VS} {A : Option Addr} {na ca : Nat} {P : Option Addr} {np cp : Nat} (h : Par w base g s A na ca P np cp) {st : Int} {mk : Bool} {W : World} {e : Ending} {w' : World} (hb : Bec g st mk A na ca none 0 0 W e w') (hW : Only (fun i => i = g) w W) :
    Mth w base g A na ca P np cp ⟨st, mk, s.zs, []⟩ e w' := by
  obtain ⟨he, hx, ho⟩ := hb
  have on := hW.trans ho
  refine ⟨A, na, ca, none, 0, 0, he, ⟨hx, Only.own h.i on (fun i hi e => h.nA (by rw [← e]; exact hi)), own_nil _ _⟩, fun i hi => .inl hi, fun i hi => (by cases hi), on.mono fun i hi => .inl hi⟩
theorem mth_bez {w : World} {base g : Nat} {s : VS} {A : Option Addr} {na ca : Nat} {P : Option Addr} {np cp : Nat} (h : Par w base g s A na ca P np cp) {st : Int} {mk : Bool} {W : World} {e : Ending} {w' : World} (hb : Bec g st mk none 0 0 none 0 0 W e w') (hW : Only (fun i => i = g) w W) :
    Mth w base g A na ca P np cp ⟨st, mk, [], []⟩ e w' := by
  obtain ⟨he, hx, ho⟩ := hb
  have on := hW.trans ho
  refine ⟨none, 0, 0, none, 0, 0, he, ⟨hx, ownI_nil _ _, own_nil _ _⟩, fun i hi => (by cases hi), fun i hi => (by cases hi), on.mono fun i hi => .inl hi⟩
theorem ans_bez {w : World} {base g : Nat} {s : VS} {A : Option Addr} {na ca : Nat} {P : Option Addr} {np cp : Nat} (h : Par w base g s A na ca P np cp) {W : World} {e : Ending} {w' : World} (hb : Bec g 0 false none 0 0 none 0 0 W e w') (hW : Only (fun i => i = g) w W) (k r : Int) (q : Bool) :
    Ans w base g A na ca P np cp vz ⟨k, r, q, s.zs⟩ (.returned (.agg #[.int .i64 k, .int .i64 r, .bool q, .slice A na ca])) w' := by
  obtain ⟨he, hx, ho⟩ := hb
  have on := hW.trans ho
  refine ⟨none, 0, 0, none, 0, 0, A, na, ca, rfl, ⟨hx, ownI_nil _ _, own_nil _ _⟩, Only.own h.i on (fun i hi e => h.nA (by rw [← e]; exact hi)), fun i hi => (by cases hi), fun i hi => (by cases hi), fun i hi => .inl hi, .inr rfl, on.mono fun i hi => .inl hi⟩
theorem Mth.trans {a b c : World} {base g : Nat} {A : Option Addr} {na ca : Nat} {P : Option Addr} {np cp : Nat} {A1 : Option Addr} {na1 ca1 : Nat} {P1 : Option Addr} {np1 cp1 : Nat} {s' : VS} {e : Ending} (hA : ∀ i, Blk A1 na1 ca1 i → Blk A na ca i ∨ a.heap.size ≤ i) (hP : ∀ i, Blk P1 np1 cp1 i → Blk P np cp i ∨ a.heap.size ≤ i) (on : Only (SP g A na ca P np cp) a b) (h : Mth b base g A1 na1 ca1 P1 np1 cp1 s' e c) : Mth a base g A na ca P np cp s' e c := by
  obtain ⟨A', na', ca', P', np', cp', he, h2, h3, h4, h5⟩ := h
  have hs := on.size
  refine ⟨A', na', ca', P', np', cp', he, h2, fun i hi => ?_, fun i hi => ?_, only_then on h5 fun i hi ht => ?_⟩
  · rcases h3 i hi with h | h
    · exact hA i h
    · exact .inr (Nat.le_trans hs h)
  · rcases h4 i hi with h | h
    · exact hP i h
    · exact .inr (Nat.le_trans hs h)
  · rcases ht with h | h | h
    · exact .inl h
    · rcases hA i h with h | h
      · exact .inr (.inl h)
      · omega
    · rcases hP i h with h | h
      · exact .inr (.inr h)
      · omega
end Go.Proofs.YtfdbmhelcmifoaaDoor.Vp
