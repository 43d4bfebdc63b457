/- Words and lemmas, merged (once: Base, Rows_, RowK, BoxKs, Opq) -/
import Derived.Test.YthlpchojlddnbaaRows
import Derived.WalkKit
import Derived.WalkSmall
import Derived.Deep.QuietTactic
import Derived.BigQuiet
import Derived.Lib.Hide
import Derived.WalkLawsBesides
import Derived.Laws.AppendOwnNone
import Derived.Laws.Rows
import Derived.Lib.BufferWrite
import Derived.Deep.WholeRow
namespace Go.Proofs.Ythlpchojlddnbaa.Bytes
open Go.RowKit
set_option linter.unusedVariables false

/-! ### a slice that reads as a list of bytes; a slice of the call's own -/
theorem grown_trans {a b d : World} {row : Option Nat} (h : a.grownBy b row) (k : b.grownBy d row) : a.grownBy d row :=
  ⟨k.os.trans h.os, k.tape.trans h.tape, k.output.trans h.output, Nat.le_trans h.size k.size, fun i hi hne => (k.block i (Nat.lt_of_lt_of_le hi h.size) hne).trans (h.block i hi hne)⟩
theorem ret_int {k : IntKind} {a b : Int} (h : a = b) : Ending.returned (.int k a) = .returned (.int k b) := by rw [h]
theorem ret_bool {a b : Bool} (h : a = b) : Ending.returned (.bool a) = .returned (.bool b) := by rw [h]
/-! ### what a frame says of a slice that came in -/
end Go.Proofs.Ythlpchojlddnbaa.Bytes
namespace Go.Proofs.Ythlpchojlddnbaa.Rows_
open Go.RowKit Go.Proofs.Ythlpchojlddnbaa.Bytes
set_option linter.unusedVariables false

def RdK (k : Nat) (w : World) (B : Nat) (A : Option Addr) (rows : List (List Value)) : Prop :=
  0 < rows.length → ∃ b o, A = some ⟨b, o, none⟩ ∧ b < B ∧ ∀ i r, rows[i]? = some r → ∀ j v, r[j]? = some v → w.cell? ⟨b, o + i * k + j, none⟩ = some v
section
variable {k : Nat} {w w' : World} {B B' : Nat} {A : Option Addr} {rows : List (List Value)}
theorem RdK.below (h : RdK k w B A rows) (hB : B ≤ B') (hb : Below B' w w') : RdK k w' B A rows := by
  intro hn
  obtain ⟨b, o, e, hlt, hc⟩ := h hn
  exact ⟨b, o, e, hlt, fun i r hr j v hv => (hb.cell (p := ⟨b, o + i * k + j, none⟩) (Nat.lt_of_lt_of_le hlt hB)).trans (hc i r hr j v hv)⟩
theorem RdK.more (h : RdK k w B A rows) (hB : B ≤ B') : RdK k w B' A rows := by
  intro hn
  obtain ⟨b, o, e, hlt, hc⟩ := h hn
  exact ⟨b, o, e, Nat.lt_of_lt_of_le hlt hB, hc⟩
theorem RdK.at_ (h : RdK k w B A rows) {i : Nat} {r : List Value} (hr : rows[i]? = some r) :
    ∃ b o, A = some ⟨b, o, none⟩ ∧ b < B ∧ ∀ j v, r[j]? = some v → w.cell? ⟨b, o + i * k + j, none⟩ = some v := by
  have hi : i < rows.length := (List.getElem?_eq_some_iff.1 hr).1
  obtain ⟨b, o, e, hlt, hc⟩ := h (by omega)
  exact ⟨b, o, e, hlt, hc i r hr⟩
end

/-! ### a disk's parts as data -/
structure TurnD where
  kind : Int
  name : ByteArray
  to_ : ByteArray
  id : Int
structure FileD where
  id : Int
  A : Option Addr
  n : Nat
  c : Nat
  safe : Int
  bytes : List Int
instance : Inhabited TurnD := ⟨⟨0, ByteArray.empty, ByteArray.empty, 0⟩⟩
instance : Inhabited FileD := ⟨⟨0, none, 0, 0, 0, []⟩⟩
section
variable {w w' : World} {B B' : Nat} {A : Option Addr}
end
theorem bcell {W w1 : World} {B : Nat} (hb : Below B W w1) : (∀ b o, b < B → w1.cell? ⟨b, o, none⟩ = W.cell? ⟨b, o, none⟩) ∧ (∀ b o, b < B → w1.frozen? ⟨b, o, none⟩ = W.frozen? ⟨b, o, none⟩) :=
  ⟨fun b o h => hb.cell (p := ⟨b, o, none⟩) h, fun b o h => hb.frozen (p := ⟨b, o, none⟩) h⟩
theorem undrew {W v : World} {B : Nat} (h : Below B W.drew v) : Below B W v := ⟨h.os, h.tape, h.output, h.size, h.block⟩
end Go.Proofs.Ythlpchojlddnbaa.Rows_
namespace Go.Proofs.Ythlpchojlddnbaa.RowK
open Go.RowKit Go.Proofs.Ythlpchojlddnbaa.Bytes Go.Proofs.Ythlpchojlddnbaa.Rows_
set_option linter.unusedVariables false
theorem flat_len (k : Nat) : ∀ (rows : List (List Value)), (∀ r ∈ rows, r.length = k) → rows.flatten.length = rows.length * k
  | [], _ => by simp
  | r :: rs, h => by
    rw [List.flatten_cons, List.length_append, h r (by simp), flat_len k rs (fun x hx => h x (by simp [hx])), List.length_cons, Nat.add_mul]
    omega
theorem flat_at (k : Nat) : ∀ (rows : List (List Value)), (∀ r ∈ rows, r.length = k) → ∀ (i : Nat) (r : List Value), rows[i]? = some r → ∀ (j : Nat) (v : Value), r[j]? = some v → rows.flatten[i * k + j]? = some v
  | [], _, i, r, h, _, _, _ => by simp at h
  | x :: rs, h, 0, r, hr, j, v, hv => by
    simp at hr; subst hr
    rw [List.flatten_cons, Nat.zero_mul, Nat.zero_add, List.getElem?_append_left (List.getElem?_eq_some_iff.1 hv).1]
    exact hv
  | x :: rs, h, i + 1, r, hr, j, v, hv => by
    simp at hr
    have hx := h x (by simp)
    rw [List.flatten_cons, List.getElem?_append_right (by rw [hx, Nat.add_mul]; omega), hx, show (i + 1) * k + j - k = i * k + j by rw [Nat.add_mul]; omega]
    exact flat_at k rs (fun y hy => h y (by simp [hy])) i r hr j v hv
theorem own_shapeK {w : World} {base : Nat} {e : TypeId} {size : Nat} {v : Value} {n : Nat} {xs : List Value} (h : w.ownsRow base e size v n xs) : ∃ A c, v = .slice A n c := by
  rcases h.2 with ⟨rfl, rfl⟩ | ⟨g, cap, cur, rfl, _⟩
  · exact ⟨none, 0, rfl⟩
  · exact ⟨_, cap, rfl⟩
theorem own_rdK {w : World} {base : Nat} {e : TypeId} {k : Nat} {A : Option Addr} {n c : Nat} {rows : List (List Value)} (hk : ∀ r ∈ rows, r.length = k) (hk0 : 0 < k) (h : w.ownsRow base e k (.slice A n c) n rows.flatten) : RdK k w w.heap.size A rows := by
  intro hn
  have hl : rows.length = n := by
    have := h.1; rw [flat_len k rows hk] at this; exact Nat.eq_of_mul_eq_mul_right hk0 this
  rcases h.2 with ⟨_, hz⟩ | ⟨g, cap, cur, hv, hb, hg, hnc, hm, hs, ht⟩
  · omega
  · injection hv with e1 e2 e3
    subst e1 e3
    refine ⟨g, 0, rfl, (Array.getElem?_eq_some_iff.1 hg).1, fun i r hr j v hv => ?_⟩
    have hi : i < rows.length := (List.getElem?_eq_some_iff.1 hr).1
    have hj : j < k := by rw [← hk r (List.mem_of_getElem? hr)]; exact (List.getElem?_eq_some_iff.1 hv).1
    have hlt : i * k + j < n * k := by
      have : (i + 1) * k ≤ n * k := Nat.mul_le_mul_right k (by omega)
      rw [Nat.add_mul] at this; omega
    rw [Nat.zero_add, World.ownsRow.cellAt (h := h) _ hlt]
    exact flat_at k rows hk i r hr j v hv
theorem set_mid (a b c : List Value) (m j : Nat) (hm : a.length = m) (hj : j < b.length) (v : Value) : (a ++ b ++ c).set (m + j) v = a ++ b.set j v ++ c := by
  rw [List.append_assoc, List.set_append_right _ _ (by omega), show m + j - a.length = j by omega, List.set_append_left _ _ hj, ← List.append_assoc]
theorem flat3 (pre post : List (List Value)) (z : List Value) : (pre ++ [z] ++ post).flatten = pre.flatten ++ z ++ post.flatten := by simp
theorem rep_flat (z : List Value) (n k : Nat) (h : k < n) : List.replicate (n - k) z = [z] ++ List.replicate (n - (k + 1)) z := by
  rw [show n - k = (n - (k + 1)) + 1 by omega, List.replicate_succ]; rfl
theorem made_flat (z : Array Value) (K n : Nat) (hz : z.size = K) (hK : 0 < K) : (madeCells z (n * K)).toList = (List.replicate n z.toList).flatten := by
  have hlen : ∀ r ∈ List.replicate n z.toList, r.length = K := by intro r hr; rw [List.eq_of_mem_replicate hr]; simpa using hz
  apply List.ext_getElem?
  intro j
  by_cases hj : j < n * K
  · have hi : j / K < n := (Nat.div_lt_iff_lt_mul hK).2 hj
    have hm : j % K < K := Nat.mod_lt _ hK
    have h1 := flat_at K (List.replicate n z.toList) hlen (j / K) z.toList (by simp [hi]) (j % K) (z[j % K]'(by omega)) (by simp [hz, hm])
    rw [show j / K * K + j % K = j by rw [Nat.mul_comm]; exact Nat.div_add_mod j K] at h1
    rw [h1]
    unfold madeCells
    simp [hj, hz, hm, getElem!_pos]
  · rw [List.getElem?_eq_none (by rw [Array.length_toList, size_madeCells]; omega), List.getElem?_eq_none (by rw [flat_len K _ hlen, List.length_replicate]; omega)]
section
variable {w : World} {base g n c : Nat} {E : TypeId} {pre post : List (List Value)}
/-- a cell of an own row is there -/
theorem own_there {K : Nat} {xs : List Value} (h : w.ownsRow base E K (.slice (some ⟨g, 0, none⟩) n c) n xs) (j : Nat) (hj : j < n * K) : ∃ u, w.cell? ⟨g, j, none⟩ = some u := by
  rw [World.ownsRow.cellAt (h := h) j hj]
  exact ⟨_, List.getElem?_eq_getElem (by rw [h.1]; exact hj)⟩
theorem own_belowK {w' : World} {B K : Nat} {v : Value} {xs : List Value} (h : w.ownsRow base E K v n xs) (hB : w.heap.size ≤ B) (hb : Below B w w') : w'.ownsRow base E K v n xs := by
  refine ⟨h.1, ?_⟩
  rcases h.2 with h0 | ⟨g, cap, cur, hv, hbb, hg, rest⟩
  · exact .inl h0
  · have hlt : g < w.heap.size := (Array.getElem?_eq_some_iff.1 hg).1
    exact .inr ⟨g, cap, cur, hv, hbb, by rw [hb.block g (by omega)]; exact hg, rest⟩
end
theorem own_setK {w : World} {base K n : Nat} {E : TypeId} {v : Value} {xs : List Value} (h : w.ownsRow base E K v n xs) (b i : Nat) (x : Value) (hb : b < base) : (w.setCell ⟨b, i, none⟩ x).ownsRow base E K v n xs := by
  refine World.ownsRow.kept h (Go.Lib.grownBy_setCell w b i x) ?_
  rcases hv : v.ownBlock with _ | g
  · exact .inl rfl
  · refine .inr fun e => ?_
    have := (World.ownsRow.lt h g hv).1
    injection e with e; omega
theorem own_moreK {w : World} {base base' K n : Nat} {E : TypeId} {v : Value} {xs : List Value} (h : w.ownsRow base E K v n xs) (hB : base' ≤ base) : w.ownsRow base' E K v n xs := by
  refine ⟨h.1, ?_⟩
  rcases h.2 with h0 | ⟨g, cap, cur, hv, hbb, rest⟩
  · exact .inl h0
  · exact .inr ⟨g, cap, cur, hv, by omega, rest⟩
structure Only (S : Nat → Prop) (w w' : World) : Prop where
  os : w'.os = w.os
  tape : w'.tape = w.tape
  output : w'.output = w.output
  size : w.heap.size ≤ w'.heap.size
  block : ∀ i, i < w.heap.size → ¬ S i → w'.heap[i]? = w.heap[i]?
theorem Only.refl (S : Nat → Prop) (w : World) : Only S w w := ⟨rfl, rfl, rfl, Nat.le_refl _, fun _ _ _ => rfl⟩
theorem Only.trans {S : Nat → Prop} {a b c : World} (h : Only S a b) (k : Only S b c) : Only S a c :=
  ⟨k.os.trans h.os, k.tape.trans h.tape, k.output.trans h.output, Nat.le_trans h.size k.size, fun i hi hs => (k.block i (Nat.lt_of_lt_of_le hi h.size) hs).trans (h.block i hi hs)⟩
theorem Only.mono {S T : Nat → Prop} {a b : World} (h : Only S a b) (hs : ∀ i, S i → T i) : Only T a b := ⟨h.os, h.tape, h.output, h.size, fun i hi hn => h.block i hi fun h' => hn (hs i h')⟩
theorem Only.grown {S : Nat → Prop} {w w' : World} {row : Option Nat} (h : w.grownBy w' row) (hS : ∀ i, row = some i → S i) : Only S w w' :=
  ⟨h.os, h.tape, h.output, h.size, fun i hi hn => h.block i hi fun e => hn (hS i e.symm)⟩
theorem Only.own {S : Nat → Prop} {w w' : World} {base K n : Nat} {E : TypeId} {v : Value} {xs : List Value} (h : w.ownsRow base E K v n xs) (ho : Only S w w') (hne : ∀ g, v.ownBlock = some g → ¬ S g) : w'.ownsRow base E K v n xs := by
  refine ⟨h.1, ?_⟩
  rcases h.2 with h0 | ⟨g, cap, cur, rfl, hb, hg, rest⟩
  · exact .inl h0
  · exact .inr ⟨g, cap, cur, rfl, hb, by rw [ho.block g (Array.getElem?_eq_some_iff.1 hg).1 (hne g rfl)]; exact hg, rest⟩
/-- rows of different types lie on different blocks -/
theorem own_ne {w : World} {base base' K K' n n' : Nat} {E E' : TypeId} {v v' : Value} {xs xs' : List Value} (h : w.ownsRow base E K v n xs) (h' : w.ownsRow base' E' K' v' n' xs') (hE : E ≠ E') : ∀ g, v.ownBlock = some g → v'.ownBlock ≠ some g := by
  intro g hv hv'
  rcases h.2 with ⟨rfl, _⟩ | ⟨g1, _, _, rfl, _, h1, _⟩
  · cases hv
  · rcases h'.2 with ⟨rfl, _⟩ | ⟨g2, _, _, rfl, _, h2, _⟩
    · cases hv'
    · simp only [Value.ownBlock, Option.some.injEq] at hv hv'
      subst hv hv'
      rw [h1] at h2
      simp only [Option.some.injEq, Obj.cells.injEq] at h2
      exact hE h2.2.1
theorem Only.cell {S : Nat → Prop} {w w' : World} (h : Only S w w') {b o : Nat} {v : Value} (hc : w.cell? ⟨b, o, none⟩ = some v) (hn : ¬ S b) : w'.cell? ⟨b, o, none⟩ = some v :=
  (World.cell?_of_block (h.block b (World.block_lt_of_cell? w ⟨b, o, none⟩ hc) hn)).trans hc
theorem Only.below {S : Nat → Prop} {w w' : World} {B : Nat} (h : Below B w w') (hB : w.heap.size ≤ B) : Only S w w' := ⟨h.os, h.tape, h.output, h.size, fun i hi _ => h.block i (Nat.lt_of_lt_of_le hi hB)⟩
theorem rowJ {w : World} {base g n c K : Nat} {E : TypeId} {pre post : List (List Value)} {z : List Value} (hz : z.length = K) (hpre : ∀ r ∈ pre, r.length = K) (k : Nat) (hk : pre.length = k) (j : Nat) (hj : j < K) (v : Value)
    (h : w.ownsRow base E K (.slice (some ⟨g, 0, none⟩) n c) n (pre ++ [z] ++ post).flatten) : (w.setCell ⟨g, k * K + j, none⟩ v).ownsRow base E K (.slice (some ⟨g, 0, none⟩) n c) n (pre ++ [z.set j v] ++ post).flatten := by
  have hl : pre.flatten.length = k * K := by rw [flat_len K pre hpre, hk]
  have h1 := (World.ownsRow.stored (h := h) (k * K + j) v).1
  rw [flat3, set_mid _ _ _ _ j hl (by rw [hz]; exact hj)] at h1
  rw [flat3]; exact h1
theorem own_addr {w : World} {base K n c : Nat} {E : TypeId} {A : Option Addr} {xs : List Value} (h : w.ownsRow base E K (.slice A n c) n xs) (hn : 0 < n) : ∃ g, A = some ⟨g, 0, none⟩ := by
  rcases h.2 with ⟨_, h⟩ | ⟨fb, _, _, h, _⟩
  · omega
  · injection h with h; exact ⟨fb, h⟩
theorem Only.cell_ {S : Nat → Prop} (w : World) (b i : Nat) (v : Value) (h : S b) : Only S w (w.setCell ⟨b, i, none⟩ v) := Only.grown (Go.Lib.grownBy_setCell w b i v) (fun j e => by injection e with e; subst e; exact h)
theorem Only.below_ {S : Nat → Prop} {a w w' : World} {B : Nat} (h : Only S w w') (hb : Below B a w) (hB : B ≤ w.heap.size) (hS : ∀ i, S i → B ≤ i) : Below B a w' :=
  ⟨h.os.trans hb.os, h.tape.trans hb.tape, h.output.trans hb.output, Nat.le_trans hb.size h.size, fun i hi => (h.block i (Nat.lt_of_lt_of_le hi hB) fun hs => by have := hS i hs; omega).trans (hb.block i hi)⟩
theorem own_noneK {w : World} {base K n : Nat} {E : TypeId} {A : Option Addr} {c : Nat} {xs : List Value} (h : w.ownsRow base E K (.slice A n c) n xs) : A = none → n = 0 ∧ c = 0 := by
  intro e
  rcases h.2 with ⟨hv, h0⟩ | ⟨g, cap, cur, hv, _⟩
  · injection hv with _ e2 e3
    exact ⟨e2, e3⟩
  · injection hv with e1
    rw [e] at e1; cases e1
end Go.Proofs.Ythlpchojlddnbaa.RowK
namespace Go.Proofs.Ythlpchojlddnbaa.Gr
open Go.RowKit Go.Proofs.Ythlpchojlddnbaa.Bytes Go.Proofs.Ythlpchojlddnbaa.Rows_ Go.Proofs.Ythlpchojlddnbaa.RowK
set_option linter.unusedVariables false
/-- block b holds these cells, from its head on -/
def BoxK (w : World) (b : Nat) (l : List Value) : Prop := ∀ j v, l[j]? = some v → w.cell? ⟨b, j, none⟩ = some v
theorem BoxK.below {w w' : World} {b B : Nat} {l : List Value} (h : BoxK w b l) (hb : Below B w w') (hB : b < B) : BoxK w' b l := fun j v hv => (hb.cell (p := ⟨b, j, none⟩) hB).trans (h j v hv)
theorem BoxK.only {S : Nat → Prop} {w w' : World} {b : Nat} {l : List Value} (h : BoxK w b l) (on : Only S w w') (hn : ¬ S b) : BoxK w' b l := fun j v hv => on.cell (h j v hv) hn
theorem BoxK.new (w : World) (l : List Value) (t : TypeId) : BoxK (w.alloc (.cells l.toArray t)) w.heap.size l := by
  intro j v hv
  rw [World.cell?_alloc_at _ _ _ _ rfl]; simpa using hv
theorem BoxK.alloc {w : World} {b : Nat} {l : List Value} (h : BoxK w b l) (hb : b < w.heap.size) (o : Obj) : BoxK (w.alloc o) b l := BoxK.below h ((Below.refl w.heap.size w).alloc (Nat.le_refl _) o) hb
end Go.Proofs.Ythlpchojlddnbaa.Gr
namespace Go.Proofs.Ythlpchojlddnbaa.Opq
open Go.RowKit Go.Proofs.Ythlpchojlddnbaa.Bytes Go.Proofs.Ythlpchojlddnbaa.Rows_ Go.Proofs.Ythlpchojlddnbaa.RowK
set_option linter.unusedVariables false
def rowOf (w : World) (b : Nat) : Array Value := match w.heap[b]? with | some (.cells C _ _) => C | _ => #[]
/-- block b is a variable of its own with the cells C -/
def RowB (w : World) (b : Nat) (C : Array Value) : Prop := ∃ T, w.heap[b]? = some (.cells C T (0, 0))
theorem RowB.row {w : World} {b : Nat} {C : Array Value} (h : RowB w b C) : rowOf w b = C := by obtain ⟨T, h⟩ := h; simp [rowOf, h]
theorem RowB.lt {w : World} {b : Nat} {C : Array Value} (h : RowB w b C) : b < w.heap.size := by obtain ⟨T, h⟩ := h; exact (Array.getElem?_eq_some_iff.1 h).1
theorem RowB.below {w w' : World} {b B : Nat} {C : Array Value} (h : RowB w b C) (hb : Below B w w') (hB : b < B) : RowB w' b C := by obtain ⟨T, h⟩ := h; exact ⟨T, by rw [hb.block b hB]; exact h⟩
theorem RowB.only {S : Nat → Prop} {w w' : World} {b : Nat} {C : Array Value} (h : RowB w b C) (on : Only S w w') (hn : ¬ S b) : RowB w' b C := by
  have hl := h.lt
  obtain ⟨T, h⟩ := h; exact ⟨T, by rw [on.block b hl hn]; exact h⟩
theorem RowB.drew {w : World} {b : Nat} {C : Array Value} (h : RowB w b C) : RowB w.drew b C := h
theorem RowB.new (w : World) (C : Array Value) (T : TypeId) : RowB (w.alloc (.cells C T)) w.heap.size C := ⟨T, heap_alloc_new w _⟩
theorem RowB.alloc {w : World} {b : Nat} {C : Array Value} (h : RowB w b C) (o : Obj) : RowB (w.alloc o) b C := h.below ((Below.refl w.heap.size w).alloc (Nat.le_refl _) o) h.lt
theorem RowB.cell {w : World} {b : Nat} {C : Array Value} (h : RowB w b C) (j : Nat) : w.cell? ⟨b, j, none⟩ = C[j]? := by obtain ⟨T, h⟩ := h; simp [World.cell?, h]
theorem RowB.free {w : World} {b : Nat} {C : Array Value} (h : RowB w b C) (j : Nat) : w.frozen? ⟨b, j, none⟩ = false := by obtain ⟨T, h⟩ := h; simp [World.frozen?, h]
theorem RowB.other {w : World} {b b' j : Nat} {C : Array Value} {v : Value} (h : RowB w b C) (hne : b ≠ b') : RowB (w.setCell ⟨b', j, none⟩ v) b C := by
  obtain ⟨T, h⟩ := h; exact ⟨T, by rw [heap_setCell_other _ _ _ _ hne]; exact h⟩
theorem RowB.set {w : World} {b j : Nat} {C : Array Value} {v : Value} (h : RowB w b C) : RowB (w.setCell ⟨b, j, none⟩ v) b (C.setIfInBounds j v) := by
  obtain ⟨T, h⟩ := h; exact ⟨T, heap_setCell_same w b j C T v h⟩
theorem RowB.setRow {w : World} {b : Nat} {C D : Array Value} (h : RowB w b C) : RowB (w.setRow b D) b D := by
  obtain ⟨T, h⟩ := h; exact ⟨T, setRow_heap w b C D T _ h⟩
theorem RowB.setRow_other {w : World} {b b' : Nat} {C D : Array Value} (h : RowB w b C) (hne : b ≠ b') : RowB (w.setRow b' D) b C := by
  obtain ⟨T, h⟩ := h; exact ⟨T, by rw [Go.setRow_other w b' b D hne]; exact h⟩
theorem below_setRow {B : Nat} {a w : World} (h : Below B a w) {b : Nat} (hb : B ≤ b) (D : Array Value) : Below B a (w.setRow b D) :=
  ⟨h.os, h.tape, h.output, by simp; exact h.size, fun k hk => by rw [Go.setRow_other w b k D (by omega)]; exact h.block k hk⟩
theorem only_setRow {S : Nat → Prop} (w : World) (b : Nat) (D : Array Value) (hb : S b) : Only S w (w.setRow b D) :=
  ⟨rfl, rfl, rfl, by simp, fun k hk hs => Go.setRow_other w b k D (fun e => hs (e ▸ hb))⟩
theorem own_setRow {w : World} {base K n : Nat} {E : TypeId} {v : Value} {xs : List Value} (h : w.ownsRow base E K v n xs) (b : Nat) (D : Array Value) (hb : b < base) : (w.setRow b D).ownsRow base E K v n xs := by
  refine Only.own h (only_setRow (S := fun i => i = b) w b D rfl) (fun g hg hs => ?_)
  have := (World.ownsRow.lt h g hg).1
  omega
/-! ### the frame of rowOf -/
theorem rowOf_drew (w : World) (b : Nat) : rowOf w.drew b = rowOf w b := rfl
theorem rowOf_alloc_past (w : World) (o : Obj) (b : Nat) (h : b < w.heap.size) : rowOf (w.alloc o) b = rowOf w b := by unfold rowOf; rw [Below.heap_alloc _ _ _ h]
theorem rowOf_alloc_at (w : World) (C : Array Value) (T : TypeId) (n : Nat) (h : n = w.heap.size) : rowOf (w.alloc (.cells C T)) n = C := by subst h; exact (RowB.new w C T).row
/-- the load of a whole variable -/
theorem run_load_row {P : Program} {T : TypeId} {d : TypeDesc} {sz : Nat} (hu : P.underlying T = some d) (hd : (match d with | .struct _ | .array _ _ => true | _ => false) = true) (hi : (P.info? T).map (·.size) = some (sz + 1))
    (w : World) (b : Nat) (h : (rowOf w b).size = sz + 1) : (Instr.loadAt T (.pointer (some ⟨b, 0, none⟩))).run P w = .ok (.agg (rowOf w b)) w := by
  unfold rowOf at h ⊢
  match hb : w.heap[b]?, h with
  | some (.cells C T' fr), h =>
    simp only [Instr.loadAt, Instr.sureAddr, Sem.run_bind, Sem.run_pure, Result.andThen_ok]
    rw [run_loadVar_row w b T' T C fr d hb hu hd (by rw [hi]; exact congrArg some h.symm)]
/-- the store of a whole variable -/
theorem run_store_row {P : Program} {T : TypeId} {sz : Nat} (hi : (P.info? T).map (·.size) = some sz) (w : World) (b : Nat) (C : Array Value) (old : Array Value) (h : RowB w b old) (ho : old.size = sz) (hs : C.size = sz) (h1 : C.all (·.oneCell') = true) :
    (Instr.storeAt T (.pointer (some ⟨b, 0, none⟩)) (.agg C)).run P w = .ok () (w.setRow b C) := by
  obtain ⟨T', hb⟩ := h
  simp only [Instr.storeAt, Instr.sureAddr, Sem.run_bind, Sem.run_pure, Result.andThen_ok]
  exact run_storeVar_row w b T' T old C hb (by rw [hi, hs]) (by rw [ho, hs]) h1
/-- a result that lies in a variable -/
theorem results_row {P : Program} {fn : Func} {p : Tmp} {T : TypeId} {d : TypeDesc} {sz : Nat} (h : fn.results = #[.cell p T]) (hu : P.underlying T = some d) (hd : (match d with | .struct _ | .array _ _ => true | _ => false) = true) (hi : (P.info? T).map (·.size) = some sz)
    (tmps : Array Value) (w : World) (b : Nat) (C : Array Value) (hp : tmps.getD p undef = .pointer (some ⟨b, 0, none⟩)) (hb : RowB w b C) (hs : C.size = sz) : (results fn tmps).run P w = .ok (.agg C) w := by
  obtain ⟨T', hb⟩ := hb
  exact results_cell_row h tmps w b T' C (0, 0) d hp hb hu hd (by rw [hi, hs])
end Go.Proofs.Ythlpchojlddnbaa.Opq

