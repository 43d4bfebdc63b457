/- Words and lemmas, merged (once: Base, Rows_, RowK, BoxKs, Opq) -/
import Derived.Test.YteiojpglhmikoaaDoorRows
import Derived.WalkKit
import Derived.WalkSmall
import Derived.Deep.QuietTactic
import Derived.BigQuiet
import Derived.Lib.Hide
import Derived.WalkLawsBesides
import Derived.Laws.AppendOwnNone
import Derived.Laws.Rows
import Derived.Lib.BufferWrite
import Derived.Deep.WholeRow
namespace Go.Proofs.YteiojpglhmikoaaDoor.Bytes
open Go.RowKit
set_option linter.unusedVariables false

/-! ### a slice that reads as a list of bytes; a slice of the call's own -/
def bv (zs : List Int) : List Value := zs.map (Value.int .u8)
def Rng (zs : List Int) : Prop := ∀ z ∈ zs, 0 ≤ z ∧ z < 256
def Rd (w : World) (B : Nat) (A : Option Addr) (zs : List Int) : Prop :=
  0 < zs.length → ∃ b o, A = some ⟨b, o, none⟩ ∧ b < B ∧ ∀ k, k < zs.length → w.cell? ⟨b, o + k, none⟩ = some (.int .u8 (zs.getD k 0))
def Own (w : World) (base : Nat) (A : Option Addr) (n c : Nat) (zs : List Int) : Prop := w.ownsRow base 5 1 (.slice A n c) n (bv zs)

theorem Rng.at_ {zs : List Int} (h : Rng zs) (k : Nat) : 0 ≤ zs.getD k 0 ∧ zs.getD k 0 < 256 := by
  rcases Nat.lt_or_ge k zs.length with hk | hk
  · have e : zs.getD k 0 = zs[k] := by simp [List.getD, hk]
    rw [e]; exact h _ (List.getElem_mem hk)
  · have e : zs.getD k 0 = 0 := by simp [List.getD, List.getElem?_eq_none hk]
    rw [e]; omega

theorem Rd.below {w w' : World} {B B' : Nat} {A : Option Addr} {zs : List Int} (h : Rd w B A zs) (hB : B ≤ B') (hb : Below B' w w') : Rd w' B A zs := by
  intro hn
  obtain ⟨b, o, e, hlt, hc⟩ := h hn
  exact ⟨b, o, e, hlt, fun k hk => (hb.cell (p := ⟨b, o + k, none⟩) (Nat.lt_of_lt_of_le hlt hB)).trans (hc k hk)⟩
theorem Rd.more {w : World} {B B' : Nat} {A : Option Addr} {zs : List Int} (h : Rd w B A zs) (hB : B ≤ B') : Rd w B' A zs := by
  intro hn
  obtain ⟨b, o, e, hlt, hc⟩ := h hn
  exact ⟨b, o, e, Nat.lt_of_lt_of_le hlt hB, hc⟩
theorem Rd.at_ {w : World} {B : Nat} {A : Option Addr} {zs : List Int} (h : Rd w B A zs) {k : Nat} (hk : k < zs.length) :
    ∃ b o, A = some ⟨b, o, none⟩ ∧ b < B ∧ w.cell? ⟨b, o + k, none⟩ = some (.int .u8 (zs.getD k 0)) := by
  obtain ⟨b, o, e, hlt, hc⟩ := h (by omega)
  exact ⟨b, o, e, hlt, hc k hk⟩

theorem Own.len {w : World} {base : Nat} {A : Option Addr} {n c : Nat} {zs : List Int} (h : Own w base A n c zs) : zs.length = n := by
  have := h.1; simpa [bv] using this
theorem Own.rd {w : World} {base : Nat} {A : Option Addr} {n c : Nat} {zs : List Int} (h : Own w base A n c zs) : Rd w w.heap.size A zs := by
  intro hn
  have hl := h.len
  rcases h.2 with ⟨_, hz⟩ | ⟨g, cap, cur, hv, hb, hg, hnc, hm, hs, ht⟩
  · omega
  · injection hv with e1 e2 e3
    subst e1 e3
    have hlt : g < w.heap.size := (Array.getElem?_eq_some_iff.1 hg).1
    refine ⟨g, 0, rfl, hlt, fun k hk => ?_⟩
    rw [Nat.zero_add, World.ownsRow.cellAt (h := h) k (by omega)]
    simp [bv, hk]
theorem Own.head {w : World} {base : Nat} {A : Option Addr} {n c : Nat} {zs : List Int} (h : Own w base A n c zs) (hn : 0 < n) : ∃ g, A = some ⟨g, 0, none⟩ ∧ base ≤ g ∧ g < w.heap.size := by
  rcases h.2 with ⟨_, hz⟩ | ⟨g, cap, cur, hv, hb, hg, _⟩
  · omega
  · injection hv with e1 e2 e3
    exact ⟨g, e1, hb, (Array.getElem?_eq_some_iff.1 hg).1⟩
theorem Own.spot {w : World} {base g n c : Nat} {zs : List Int} (h : Own w base (some ⟨g, 0, none⟩) n c zs) {k : Nat} (hk : k < n) :
    w.cell? ⟨g, k, none⟩ = some (.int .u8 (zs.getD k 0)) ∧ w.frozen? ⟨g, k, none⟩ = false := by
  refine ⟨?_, World.ownsRow.frozenAt (h := h) k⟩
  have hl := h.len
  rw [World.ownsRow.cellAt (h := h) k (by omega)]
  simp [bv, show k < zs.length by omega]
theorem Own.stored {w : World} {base g n c : Nat} {zs : List Int} (h : Own w base (some ⟨g, 0, none⟩) n c zs) (k : Nat) (z : Int) :
    Own (w.setCell ⟨g, k, none⟩ (.int .u8 z)) base (some ⟨g, 0, none⟩) n c (zs.set k z) ∧ w.grownBy (w.setCell ⟨g, k, none⟩ (.int .u8 z)) (some g) := by
  have hs := World.ownsRow.stored (h := h) k (.int .u8 z)
  refine ⟨?_, hs.2⟩
  have e : bv (zs.set k z) = (bv zs).set k (.int .u8 z) := by simp [bv]
  unfold Own; rw [e]; exact hs.1
theorem Own.below {w w' : World} {base B : Nat} {A : Option Addr} {n c : Nat} {zs : List Int} (h : Own w base A n c zs) (hB : w.heap.size ≤ B) (hb : Below B w w') : Own w' base A n c zs := by
  refine ⟨h.1, ?_⟩
  rcases h.2 with h0 | ⟨g, cap, cur, hv, hbb, hg, rest⟩
  · exact .inl h0
  · have hlt : g < w.heap.size := (Array.getElem?_eq_some_iff.1 hg).1
    exact .inr ⟨g, cap, cur, hv, hbb, by rw [hb.block g (by omega)]; exact hg, rest⟩
theorem Own.more {w : World} {base base' : Nat} {A : Option Addr} {n c : Nat} {zs : List Int} (h : Own w base A n c zs) (hB : base' ≤ base) : Own w base' A n c zs := by
  refine ⟨h.1, ?_⟩
  rcases h.2 with h0 | ⟨g, cap, cur, hv, hbb, rest⟩
  · exact .inl h0
  · exact .inr ⟨g, cap, cur, hv, by omega, rest⟩
theorem grown_trans {a b d : World} {row : Option Nat} (h : a.grownBy b row) (k : b.grownBy d row) : a.grownBy d row :=
  ⟨k.os.trans h.os, k.tape.trans h.tape, k.output.trans h.output, Nat.le_trans h.size k.size, fun i hi hne => (k.block i (Nat.lt_of_lt_of_le hi h.size) hne).trans (h.block i hi hne)⟩
theorem ret_int {k : IntKind} {a b : Int} (h : a = b) : Ending.returned (.int k a) = .returned (.int k b) := by rw [h]
theorem ret_bool {a b : Bool} (h : a = b) : Ending.returned (.bool a) = .returned (.bool b) := by rw [h]
theorem Trydinfo : (Tryd.prog.info? 5).map (fun i => (i.zero, i.size, i.bytes)) = some (some (.int .u8 0), 1, 1) := by kernel_rfl

/-! ### what a frame says of a slice that came in -/
def IsRow (k : IntKind) (w : World) (a : Option Addr) (len cap : Nat) (zs : List Int) : Prop :=
  (a = none ∧ len = 0 ∧ cap = 0 ∧ zs = []) ∨
  ∃ x, a = some x ∧ len ≤ cap ∧ cap ≤ maxLen ∧ zs.length = cap ∧ (∀ i, i < zs.length → w.cell? (x.add i) = some (.int k (zs.getD i 0))) ∧ ∀ n ∈ zs, (Lit.int k n).wf = true
theorem wf_rng {z : Int} (h : (Lit.int .u8 z).wf = true) : 0 ≤ z ∧ z < 256 := by
  simp [Lit.wf, IntKind.min, IntKind.max, IntKind.bits, IntKind.signed] at h
  omega
theorem IsRow.open_ {w : World} {a : Option Addr} {len cap : Nat} {zs : List Int} (h : IsRow .u8 w a len cap zs) :
    Rd w w.heap.size a (zs.take len) ∧ (zs.take len).length = len ∧ (a = none → len = 0 ∧ cap = 0) ∧ Rng (zs.take len) := by
  rcases h with ⟨rfl, rfl, rfl, rfl⟩ | ⟨x, rfl, h1, h2, h3, h4, h5⟩
  · exact ⟨fun h => absurd h (by simp), rfl, fun _ => ⟨rfl, rfl⟩, fun z hz => by simp at hz⟩
  · refine ⟨fun hn => ?_, by simp; omega, fun h => by simp at h, fun z hz => wf_rng (h5 z (List.mem_of_mem_take hz))⟩
    have hlen : 0 < zs.length := by simp at hn; omega
    obtain ⟨b, o, spot⟩ := x
    have hc := h4 0 hlen
    have hspot : spot = none := by simpa [Addr.add] using World.cell?_spot hc
    subst hspot
    refine ⟨b, o, rfl, by simpa [Addr.add] using World.block_lt_of_cell? w _ hc, fun k hk => ?_⟩
    have hk' : k < len ∧ k < zs.length := by simp at hk; omega
    have := h4 k hk'.2
    rw [Addr.add_lit] at this
    rw [this]
    simp [List.getD, hk'.1]

theorem Own.keep {w w' : World} {base : Nat} {A : Option Addr} {n c : Nat} {zs : List Int} {row : Option Nat} (h : Own w base A n c zs) (hg : w.grownBy w' row)
    (hne : ∀ g, (Value.slice A n c).ownBlock = some g → row ≠ some g) : Own w' base A n c zs := by
  refine World.ownsRow.kept h hg ?_
  rcases hv : (Value.slice A n c).ownBlock with _ | g
  · exact .inl rfl
  · exact .inr fun e => hne g hv e.symm
theorem Own.blk {w : World} {base : Nat} {A : Option Addr} {n c : Nat} {zs : List Int} (h : Own w base A n c zs) : ∀ g, (Value.slice A n c).ownBlock = some g → base ≤ g ∧ g < w.heap.size := World.ownsRow.lt h
theorem Own.cap {w : World} {base : Nat} {A : Option Addr} {n c : Nat} {zs : List Int} (h : Own w base A n c zs) : n ≤ c := by
  rcases h.2 with ⟨hv, h0⟩ | ⟨g, cap, cur, hv, _, _, hnc, _⟩
  · omega
  · injection hv with e1 e2 e3
    omega
end Go.Proofs.YteiojpglhmikoaaDoor.Bytes
namespace Go.Proofs.YteiojpglhmikoaaDoor.Rows_
open Go.RowKit Go.Proofs.YteiojpglhmikoaaDoor.Bytes
set_option linter.unusedVariables false

section
variable {k : Nat} {w w' : World} {B B' : Nat} {A : Option Addr} {rows : List (List Value)}
end

/-! ### a disk's parts as data -/
structure TurnD where
  kind : Int
  name : ByteArray
  to_ : ByteArray
  id : Int
structure FileD where
  id : Int
  A : Option Addr
  n : Nat
  c : Nat
  safe : Int
  bytes : List Int
instance : Inhabited TurnD := ⟨⟨0, ByteArray.empty, ByteArray.empty, 0⟩⟩
instance : Inhabited FileD := ⟨⟨0, none, 0, 0, 0, []⟩⟩
section
variable {w w' : World} {B B' : Nat} {A : Option Addr}
end
end Go.Proofs.YteiojpglhmikoaaDoor.Rows_
namespace Go.Proofs.YteiojpglhmikoaaDoor.RowK
open Go.RowKit Go.Proofs.YteiojpglhmikoaaDoor.Bytes Go.Proofs.YteiojpglhmikoaaDoor.Rows_
set_option linter.unusedVariables false
theorem own_shapeK {w : World} {base : Nat} {e : TypeId} {size : Nat} {v : Value} {n : Nat} {xs : List Value} (h : w.ownsRow base e size v n xs) : ∃ A c, v = .slice A n c := by
  rcases h.2 with ⟨rfl, rfl⟩ | ⟨g, cap, cur, rfl, _⟩
  · exact ⟨none, 0, rfl⟩
  · exact ⟨_, cap, rfl⟩
section
variable {w : World} {base g n c : Nat} {E : TypeId} {pre post : List (List Value)}
end
structure Only (S : Nat → Prop) (w w' : World) : Prop where
  os : w'.os = w.os
  tape : w'.tape = w.tape
  output : w'.output = w.output
  size : w.heap.size ≤ w'.heap.size
  block : ∀ i, i < w.heap.size → ¬ S i → w'.heap[i]? = w.heap[i]?
theorem Only.refl (S : Nat → Prop) (w : World) : Only S w w := ⟨rfl, rfl, rfl, Nat.le_refl _, fun _ _ _ => rfl⟩
theorem Only.trans {S : Nat → Prop} {a b c : World} (h : Only S a b) (k : Only S b c) : Only S a c :=
  ⟨k.os.trans h.os, k.tape.trans h.tape, k.output.trans h.output, Nat.le_trans h.size k.size, fun i hi hs => (k.block i (Nat.lt_of_lt_of_le hi h.size) hs).trans (h.block i hi hs)⟩
theorem Only.mono {S T : Nat → Prop} {a b : World} (h : Only S a b) (hs : ∀ i, S i → T i) : Only T a b := ⟨h.os, h.tape, h.output, h.size, fun i hi hn => h.block i hi fun h' => hn (hs i h')⟩
theorem Only.grown {S : Nat → Prop} {w w' : World} {row : Option Nat} (h : w.grownBy w' row) (hS : ∀ i, row = some i → S i) : Only S w w' :=
  ⟨h.os, h.tape, h.output, h.size, fun i hi hn => h.block i hi fun e => hn (hS i e.symm)⟩
theorem Only.own {S : Nat → Prop} {w w' : World} {base K n : Nat} {E : TypeId} {v : Value} {xs : List Value} (h : w.ownsRow base E K v n xs) (ho : Only S w w') (hne : ∀ g, v.ownBlock = some g → ¬ S g) : w'.ownsRow base E K v n xs := by
  refine ⟨h.1, ?_⟩
  rcases h.2 with h0 | ⟨g, cap, cur, rfl, hb, hg, rest⟩
  · exact .inl h0
  · exact .inr ⟨g, cap, cur, rfl, hb, by rw [ho.block g (Array.getElem?_eq_some_iff.1 hg).1 (hne g rfl)]; exact hg, rest⟩
theorem Only.cell {S : Nat → Prop} {w w' : World} (h : Only S w w') {b o : Nat} {v : Value} (hc : w.cell? ⟨b, o, none⟩ = some v) (hn : ¬ S b) : w'.cell? ⟨b, o, none⟩ = some v :=
  (World.cell?_of_block (h.block b (World.block_lt_of_cell? w ⟨b, o, none⟩ hc) hn)).trans hc
theorem Only.below {S : Nat → Prop} {w w' : World} {B : Nat} (h : Below B w w') (hB : w.heap.size ≤ B) : Only S w w' := ⟨h.os, h.tape, h.output, h.size, fun i hi _ => h.block i (Nat.lt_of_lt_of_le hi hB)⟩
end Go.Proofs.YteiojpglhmikoaaDoor.RowK
namespace Go.Proofs.YteiojpglhmikoaaDoor.Gr
open Go.RowKit Go.Proofs.YteiojpglhmikoaaDoor.Bytes Go.Proofs.YteiojpglhmikoaaDoor.Rows_ Go.Proofs.YteiojpglhmikoaaDoor.RowK
set_option linter.unusedVariables false
end Go.Proofs.YteiojpglhmikoaaDoor.Gr
namespace Go.Proofs.YteiojpglhmikoaaDoor.Opq
open Go.RowKit Go.Proofs.YteiojpglhmikoaaDoor.Bytes Go.Proofs.YteiojpglhmikoaaDoor.Rows_ Go.Proofs.YteiojpglhmikoaaDoor.RowK
set_option linter.unusedVariables false
def rowOf (w : World) (b : Nat) : Array Value := match w.heap[b]? with | some (.cells C _ _) => C | _ => #[]
/-- block b is a variable of its own with the cells C -/
def RowB (w : World) (b : Nat) (C : Array Value) : Prop := ∃ T, w.heap[b]? = some (.cells C T (0, 0))
theorem RowB.row {w : World} {b : Nat} {C : Array Value} (h : RowB w b C) : rowOf w b = C := by obtain ⟨T, h⟩ := h; simp [rowOf, h]
theorem RowB.lt {w : World} {b : Nat} {C : Array Value} (h : RowB w b C) : b < w.heap.size := by obtain ⟨T, h⟩ := h; exact (Array.getElem?_eq_some_iff.1 h).1
theorem RowB.below {w w' : World} {b B : Nat} {C : Array Value} (h : RowB w b C) (hb : Below B w w') (hB : b < B) : RowB w' b C := by obtain ⟨T, h⟩ := h; exact ⟨T, by rw [hb.block b hB]; exact h⟩
theorem RowB.only {S : Nat → Prop} {w w' : World} {b : Nat} {C : Array Value} (h : RowB w b C) (on : Only S w w') (hn : ¬ S b) : RowB w' b C := by
  have hl := h.lt
  obtain ⟨T, h⟩ := h; exact ⟨T, by rw [on.block b hl hn]; exact h⟩
theorem RowB.drew {w : World} {b : Nat} {C : Array Value} (h : RowB w b C) : RowB w.drew b C := h
theorem RowB.new (w : World) (C : Array Value) (T : TypeId) : RowB (w.alloc (.cells C T)) w.heap.size C := ⟨T, heap_alloc_new w _⟩
theorem RowB.alloc {w : World} {b : Nat} {C : Array Value} (h : RowB w b C) (o : Obj) : RowB (w.alloc o) b C := h.below ((Below.refl w.heap.size w).alloc (Nat.le_refl _) o) h.lt
theorem RowB.cell {w : World} {b : Nat} {C : Array Value} (h : RowB w b C) (j : Nat) : w.cell? ⟨b, j, none⟩ = C[j]? := by obtain ⟨T, h⟩ := h; simp [World.cell?, h]
theorem RowB.set {w : World} {b j : Nat} {C : Array Value} {v : Value} (h : RowB w b C) : RowB (w.setCell ⟨b, j, none⟩ v) b (C.setIfInBounds j v) := by
  obtain ⟨T, h⟩ := h; exact ⟨T, heap_setCell_same w b j C T v h⟩
/-! ### the frame of rowOf -/
end Go.Proofs.YteiojpglhmikoaaDoor.Opq

