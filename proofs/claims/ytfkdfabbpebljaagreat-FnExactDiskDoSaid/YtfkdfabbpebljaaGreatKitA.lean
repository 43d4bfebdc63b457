/- Texts that lay in modules of their own: Base, IntsB, Rows_, Find, Links, Ints, BytesEq, BytesC, SzB. -/
import Derived.Test.YtfkdfabbpebljaaGreatRows
import Derived.WalkKit
import Derived.WalkSmall
import Derived.Deep.QuietTactic
import Derived.BigQuiet
import Derived.Lib.Hide
import Derived.Laws.AppendOwnNone
import Derived.Laws.OwnMore
import Derived.WalkLawsBesides
import Derived.Outline
import Derived.Laws.Rows
import Derived.Lib.BufferWrite
namespace Go.Proofs.YtfkdfabbpebljaaGreat.Bytes
open Go.RowKit
set_option linter.unusedVariables false

/-! ### a slice that reads as a list of bytes; a slice of the call's own -/
def bv (zs : List Int) : List Value := zs.map (Value.int .u8)
def Rng (zs : List Int) : Prop := ∀ z ∈ zs, 0 ≤ z ∧ z < 256
def Rd (w : World) (B : Nat) (A : Option Addr) (zs : List Int) : Prop :=
  0 < zs.length → ∃ b o, A = some ⟨b, o, none⟩ ∧ b < B ∧ ∀ k, k < zs.length → w.cell? ⟨b, o + k, none⟩ = some (.int .u8 (zs.getD k 0))
def Own (w : World) (base : Nat) (A : Option Addr) (n c : Nat) (zs : List Int) : Prop := w.ownsRow base 5 1 (.slice A n c) n (bv zs)

theorem Rng.at_ {zs : List Int} (h : Rng zs) (k : Nat) : 0 ≤ zs.getD k 0 ∧ zs.getD k 0 < 256 := by
  rcases Nat.lt_or_ge k zs.length with hk | hk
  · have e : zs.getD k 0 = zs[k] := by simp [List.getD, hk]
    rw [e]; exact h _ (List.getElem_mem hk)
  · have e : zs.getD k 0 = 0 := by simp [List.getD, List.getElem?_eq_none hk]
    rw [e]; omega

theorem Rd.below {w w' : World} {B B' : Nat} {A : Option Addr} {zs : List Int} (h : Rd w B A zs) (hB : B ≤ B') (hb : Below B' w w') : Rd w' B A zs := by
  intro hn
  obtain ⟨b, o, e, hlt, hc⟩ := h hn
  exact ⟨b, o, e, hlt, fun k hk => (hb.cell (p := ⟨b, o + k, none⟩) (Nat.lt_of_lt_of_le hlt hB)).trans (hc k hk)⟩
theorem Rd.more {w : World} {B B' : Nat} {A : Option Addr} {zs : List Int} (h : Rd w B A zs) (hB : B ≤ B') : Rd w B' A zs := by
  intro hn
  obtain ⟨b, o, e, hlt, hc⟩ := h hn
  exact ⟨b, o, e, Nat.lt_of_lt_of_le hlt hB, hc⟩
theorem Rd.at_ {w : World} {B : Nat} {A : Option Addr} {zs : List Int} (h : Rd w B A zs) {k : Nat} (hk : k < zs.length) :
    ∃ b o, A = some ⟨b, o, none⟩ ∧ b < B ∧ w.cell? ⟨b, o + k, none⟩ = some (.int .u8 (zs.getD k 0)) := by
  obtain ⟨b, o, e, hlt, hc⟩ := h (by omega)
  exact ⟨b, o, e, hlt, hc k hk⟩

theorem Own.len {w : World} {base : Nat} {A : Option Addr} {n c : Nat} {zs : List Int} (h : Own w base A n c zs) : zs.length = n := by
  have := h.1; simpa [bv] using this
theorem Own.rd {w : World} {base : Nat} {A : Option Addr} {n c : Nat} {zs : List Int} (h : Own w base A n c zs) : Rd w w.heap.size A zs := by
  intro hn
  have hl := h.len
  rcases h.2 with ⟨_, hz⟩ | ⟨g, cap, cur, hv, hb, hg, hnc, hm, hs, ht⟩
  · omega
  · injection hv with e1 e2 e3
    subst e1 e3
    have hlt : g < w.heap.size := (Array.getElem?_eq_some_iff.1 hg).1
    refine ⟨g, 0, rfl, hlt, fun k hk => ?_⟩
    rw [Nat.zero_add, World.ownsRow.cellAt (h := h) k (by omega)]
    simp [bv, hk]
theorem Own.head {w : World} {base : Nat} {A : Option Addr} {n c : Nat} {zs : List Int} (h : Own w base A n c zs) (hn : 0 < n) : ∃ g, A = some ⟨g, 0, none⟩ ∧ base ≤ g ∧ g < w.heap.size := by
  rcases h.2 with ⟨_, hz⟩ | ⟨g, cap, cur, hv, hb, hg, _⟩
  · omega
  · injection hv with e1 e2 e3
    exact ⟨g, e1, hb, (Array.getElem?_eq_some_iff.1 hg).1⟩
theorem Own.spot {w : World} {base g n c : Nat} {zs : List Int} (h : Own w base (some ⟨g, 0, none⟩) n c zs) {k : Nat} (hk : k < n) :
    w.cell? ⟨g, k, none⟩ = some (.int .u8 (zs.getD k 0)) ∧ w.frozen? ⟨g, k, none⟩ = false := by
  refine ⟨?_, World.ownsRow.frozenAt (h := h) k⟩
  have hl := h.len
  rw [World.ownsRow.cellAt (h := h) k (by omega)]
  simp [bv, show k < zs.length by omega]
theorem Own.stored {w : World} {base g n c : Nat} {zs : List Int} (h : Own w base (some ⟨g, 0, none⟩) n c zs) (k : Nat) (z : Int) :
    Own (w.setCell ⟨g, k, none⟩ (.int .u8 z)) base (some ⟨g, 0, none⟩) n c (zs.set k z) ∧ w.grownBy (w.setCell ⟨g, k, none⟩ (.int .u8 z)) (some g) := by
  have hs := World.ownsRow.stored (h := h) k (.int .u8 z)
  refine ⟨?_, hs.2⟩
  have e : bv (zs.set k z) = (bv zs).set k (.int .u8 z) := by simp [bv]
  unfold Own; rw [e]; exact hs.1
theorem Own.below {w w' : World} {base B : Nat} {A : Option Addr} {n c : Nat} {zs : List Int} (h : Own w base A n c zs) (hB : w.heap.size ≤ B) (hb : Below B w w') : Own w' base A n c zs := by
  refine ⟨h.1, ?_⟩
  rcases h.2 with h0 | ⟨g, cap, cur, hv, hbb, hg, rest⟩
  · exact .inl h0
  · have hlt : g < w.heap.size := (Array.getElem?_eq_some_iff.1 hg).1
    exact .inr ⟨g, cap, cur, hv, hbb, by rw [hb.block g (by omega)]; exact hg, rest⟩
theorem Own.more {w : World} {base base' : Nat} {A : Option Addr} {n c : Nat} {zs : List Int} (h : Own w base A n c zs) (hB : base' ≤ base) : Own w base' A n c zs := by
  refine ⟨h.1, ?_⟩
  rcases h.2 with h0 | ⟨g, cap, cur, hv, hbb, rest⟩
  · exact .inl h0
  · exact .inr ⟨g, cap, cur, hv, by omega, rest⟩
/-- what is owned from 'base' on lies apart from what is owned below it -/
theorem Own.apart {w w' : World} {base : Nat} {A A' : Option Addr} {n c n' c' : Nat} {zs : List Int} (h : Own w base A n c zs)
    (hlt : ∀ g, (Value.slice A' n' c').ownBlock = some g → g < base) (hg : w.grownBy w' (Value.slice A' n' c').ownBlock) : Own w' base A n c zs := by
  refine World.ownsRow.kept h hg ?_
  rcases hv : (Value.slice A n c).ownBlock with _ | g
  · exact .inl rfl
  · refine .inr ?_
    intro e
    have := (World.ownsRow.lt h g hv).1
    have := hlt g e.symm
    omega

theorem grown_trans {a b d : World} {row : Option Nat} (h : a.grownBy b row) (k : b.grownBy d row) : a.grownBy d row :=
  ⟨k.os.trans h.os, k.tape.trans h.tape, k.output.trans h.output, Nat.le_trans h.size k.size, fun i hi hne => (k.block i (Nat.lt_of_lt_of_le hi h.size) hne).trans (h.block i hi hne)⟩
theorem ret_int {k : IntKind} {a b : Int} (h : a = b) : Ending.returned (.int k a) = .returned (.int k b) := by rw [h]
theorem ret_bool {a b : Bool} (h : a = b) : Ending.returned (.bool a) = .returned (.bool b) := by rw [h]
theorem Tryzinfo : (Tryz.prog.info? 5).map (fun i => (i.zero, i.size, i.bytes)) = some (some (.int .u8 0), 1, 1) := by kernel_rfl

/-! ### what a frame says of a slice that came in -/
def IsRow (k : IntKind) (w : World) (a : Option Addr) (len cap : Nat) (zs : List Int) : Prop :=
  (a = none ∧ len = 0 ∧ cap = 0 ∧ zs = []) ∨
  ∃ x, a = some x ∧ len ≤ cap ∧ cap ≤ maxLen ∧ zs.length = cap ∧ (∀ i, i < zs.length → w.cell? (x.add i) = some (.int k (zs.getD i 0))) ∧ ∀ n ∈ zs, (Lit.int k n).wf = true
theorem wf_rng {z : Int} (h : (Lit.int .u8 z).wf = true) : 0 ≤ z ∧ z < 256 := by
  simp [Lit.wf, IntKind.min, IntKind.max, IntKind.bits, IntKind.signed] at h
  omega
theorem IsRow.open_ {w : World} {a : Option Addr} {len cap : Nat} {zs : List Int} (h : IsRow .u8 w a len cap zs) :
    Rd w w.heap.size a (zs.take len) ∧ (zs.take len).length = len ∧ (a = none → len = 0 ∧ cap = 0) ∧ Rng (zs.take len) := by
  rcases h with ⟨rfl, rfl, rfl, rfl⟩ | ⟨x, rfl, h1, h2, h3, h4, h5⟩
  · exact ⟨fun h => absurd h (by simp), rfl, fun _ => ⟨rfl, rfl⟩, fun z hz => by simp at hz⟩
  · refine ⟨fun hn => ?_, by simp; omega, fun h => by simp at h, fun z hz => wf_rng (h5 z (List.mem_of_mem_take hz))⟩
    have hlen : 0 < zs.length := by simp at hn; omega
    obtain ⟨b, o, spot⟩ := x
    have hc := h4 0 hlen
    have hspot : spot = none := by simpa [Addr.add] using World.cell?_spot hc
    subst hspot
    refine ⟨b, o, rfl, by simpa [Addr.add] using World.block_lt_of_cell? w _ hc, fun k hk => ?_⟩
    have hk' : k < len ∧ k < zs.length := by simp at hk; omega
    have := h4 k hk'.2
    rw [Addr.add_lit] at this
    rw [this]
    simp [List.getD, hk'.1]

theorem Own.keep {w w' : World} {base : Nat} {A : Option Addr} {n c : Nat} {zs : List Int} {row : Option Nat} (h : Own w base A n c zs) (hg : w.grownBy w' row)
    (hne : ∀ g, (Value.slice A n c).ownBlock = some g → row ≠ some g) : Own w' base A n c zs := by
  refine World.ownsRow.kept h hg ?_
  rcases hv : (Value.slice A n c).ownBlock with _ | g
  · exact .inl rfl
  · exact .inr fun e => hne g hv e.symm
theorem Own.blk {w : World} {base : Nat} {A : Option Addr} {n c : Nat} {zs : List Int} (h : Own w base A n c zs) : ∀ g, (Value.slice A n c).ownBlock = some g → base ≤ g ∧ g < w.heap.size := World.ownsRow.lt h
/-- of two slices of the call's own the elder lies below the younger's base -/
theorem Own.ne_ {w w' : World} {base base' : Nat} {A A' : Option Addr} {n c n' c' : Nat} {zs zs' : List Int} (h : Own w base A n c zs) (h' : Own w' base' A' n' c' zs') (hlt : w.heap.size ≤ base') :
    ∀ g, (Value.slice A n c).ownBlock = some g → (Value.slice A' n' c').ownBlock ≠ some g := by
  intro g hg hg'
  have h1 := h.blk g hg
  have h2 := h'.blk g hg'
  omega
theorem Own.cap {w : World} {base : Nat} {A : Option Addr} {n c : Nat} {zs : List Int} (h : Own w base A n c zs) : n ≤ c := by
  rcases h.2 with ⟨hv, h0⟩ | ⟨g, cap, cur, hv, _, _, hnc, _⟩
  · omega
  · injection hv with e1 e2 e3
    omega
theorem wf_i64 {z : Int} (h : (Lit.int .i64 z).wf = true) : -9223372036854775808 ≤ z ∧ z ≤ 9223372036854775807 := by
  simp [Lit.wf, IntKind.min, IntKind.max, IntKind.bits, IntKind.signed] at h
  omega
end Go.Proofs.YtfkdfabbpebljaaGreat.Bytes
namespace Go.Proofs.YtfkdfabbpebljaaGreat.DOk
open Go.RowKit Go.Proofs.YtfkdfabbpebljaaGreat.Bytes
set_option linter.unusedVariables false
def iv (zs : List Int) : List Value := zs.map (Value.int .i64)
def RdI (w : World) (B : Nat) (A : Option Addr) (zs : List Int) : Prop :=
  0 < zs.length → ∃ b o, A = some ⟨b, o, none⟩ ∧ b < B ∧ ∀ k (h : k < zs.length), w.cell? ⟨b, o + k, none⟩ = some (.int .i64 zs[k])
def OwnI (w : World) (base : Nat) (A : Option Addr) (n c : Nat) (zs : List Int) : Prop := w.ownsRow base 3 1 (.slice A n c) n (iv zs)
theorem RdI.below {w w' : World} {B B' : Nat} {A : Option Addr} {zs : List Int} (h : RdI w B A zs) (hB : B ≤ B') (hb : Below B' w w') : RdI w' B A zs := by
  intro hn
  obtain ⟨b, o, e, hlt, hc⟩ := h hn
  exact ⟨b, o, e, hlt, fun k hk => (hb.cell (p := ⟨b, o + k, none⟩) (Nat.lt_of_lt_of_le hlt hB)).trans (hc k hk)⟩
theorem RdI.more {w : World} {B B' : Nat} {A : Option Addr} {zs : List Int} (h : RdI w B A zs) (hB : B ≤ B') : RdI w B' A zs := by
  intro hn
  obtain ⟨b, o, e, hlt, hc⟩ := h hn
  exact ⟨b, o, e, Nat.lt_of_lt_of_le hlt hB, hc⟩
theorem RdI.at_ {w : World} {B : Nat} {A : Option Addr} {zs : List Int} (h : RdI w B A zs) {k : Nat} (hk : k < zs.length) : ∃ b o, A = some ⟨b, o, none⟩ ∧ b < B ∧ w.cell? ⟨b, o + k, none⟩ = some (.int .i64 zs[k]) := by
  obtain ⟨b, o, e, hlt, hc⟩ := h (by omega)
  exact ⟨b, o, e, hlt, hc k hk⟩
theorem RdI.take {w : World} {B : Nat} {A : Option Addr} {zs : List Int} (h : RdI w B A zs) (k : Nat) : RdI w B A (zs.take k) := by
  intro hn
  have hn' : 0 < zs.length := by rw [List.length_take] at hn; omega
  obtain ⟨b, o, e, hlt, hc⟩ := h hn'
  refine ⟨b, o, e, hlt, fun j hj => ?_⟩
  have hj' : j < zs.length := by rw [List.length_take] at hj; omega
  rw [hc j hj', List.getElem_take]
theorem OwnI.len {w : World} {base : Nat} {A : Option Addr} {n c : Nat} {zs : List Int} (h : OwnI w base A n c zs) : zs.length = n := by
  have := h.1; simpa [iv] using this
theorem OwnI.cap {w : World} {base : Nat} {A : Option Addr} {n c : Nat} {zs : List Int} (h : OwnI w base A n c zs) : n ≤ c := by
  rcases h.2 with ⟨hv, h0⟩ | ⟨g, cap, cur, hv, _, _, hnc, _⟩
  · omega
  · injection hv with e1 e2 e3
    omega
theorem OwnI.rd {w : World} {base : Nat} {A : Option Addr} {n c : Nat} {zs : List Int} (h : OwnI w base A n c zs) : RdI w w.heap.size A zs := by
  intro hn
  have hl := h.len
  rcases h.2 with ⟨_, hz⟩ | ⟨g, cap, cur, hv, hb, hg, hnc, hm, hs, ht⟩
  · omega
  · injection hv with e1 e2 e3
    subst e1 e3
    refine ⟨g, 0, rfl, (Array.getElem?_eq_some_iff.1 hg).1, fun k hk => ?_⟩
    rw [Nat.zero_add, World.ownsRow.cellAt (h := h) k (by omega)]
    simp [iv, hk]
theorem OwnI.blk {w : World} {base : Nat} {A : Option Addr} {n c : Nat} {zs : List Int} (h : OwnI w base A n c zs) : ∀ g, (Value.slice A n c).ownBlock = some g → base ≤ g ∧ g < w.heap.size := World.ownsRow.lt h
theorem OwnI.alloc {w : World} {base : Nat} {A : Option Addr} {n c : Nat} {zs : List Int} (h : OwnI w base A n c zs) (o : Obj) : OwnI (w.alloc o) base A n c zs := World.ownsRow.alloc h o
theorem OwnI.below {w w' : World} {base B : Nat} {A : Option Addr} {n c : Nat} {zs : List Int} (h : OwnI w base A n c zs) (hB : w.heap.size ≤ B) (hb : Below B w w') : OwnI w' base A n c zs := by
  refine ⟨h.1, ?_⟩
  rcases h.2 with h0 | ⟨g, cap, cur, hv, hbb, hg, rest⟩
  · exact .inl h0
  · have hlt : g < w.heap.size := (Array.getElem?_eq_some_iff.1 hg).1
    exact .inr ⟨g, cap, cur, hv, hbb, by rw [hb.block g (by omega)]; exact hg, rest⟩
theorem OwnI.more {w : World} {base base' : Nat} {A : Option Addr} {n c : Nat} {zs : List Int} (h : OwnI w base A n c zs) (hB : base' ≤ base) : OwnI w base' A n c zs := by
  refine ⟨h.1, ?_⟩
  rcases h.2 with h0 | ⟨g, cap, cur, hv, hbb, rest⟩
  · exact .inl h0
  · exact .inr ⟨g, cap, cur, hv, by omega, rest⟩
theorem intInfo : (Tryz.prog.info? 3).map (fun i => (i.zero, i.size, i.bytes)) = some (some (.int .i64 0), 1, 8) := by kernel_rfl
end Go.Proofs.YtfkdfabbpebljaaGreat.DOk
namespace Go.Proofs.YtfkdfabbpebljaaGreat.Rows_
open Go.RowKit Go.Proofs.YtfkdfabbpebljaaGreat.Bytes
set_option linter.unusedVariables false

def RdK (k : Nat) (w : World) (B : Nat) (A : Option Addr) (rows : List (List Value)) : Prop :=
  0 < rows.length → ∃ b o, A = some ⟨b, o, none⟩ ∧ b < B ∧ ∀ i r, rows[i]? = some r → ∀ j v, r[j]? = some v → w.cell? ⟨b, o + i * k + j, none⟩ = some v
section
variable {k : Nat} {w w' : World} {B B' : Nat} {A : Option Addr} {rows : List (List Value)}
theorem RdK.below (h : RdK k w B A rows) (hB : B ≤ B') (hb : Below B' w w') : RdK k w' B A rows := by
  intro hn
  obtain ⟨b, o, e, hlt, hc⟩ := h hn
  exact ⟨b, o, e, hlt, fun i r hr j v hv => (hb.cell (p := ⟨b, o + i * k + j, none⟩) (Nat.lt_of_lt_of_le hlt hB)).trans (hc i r hr j v hv)⟩
theorem RdK.more (h : RdK k w B A rows) (hB : B ≤ B') : RdK k w B' A rows := by
  intro hn
  obtain ⟨b, o, e, hlt, hc⟩ := h hn
  exact ⟨b, o, e, Nat.lt_of_lt_of_le hlt hB, hc⟩
theorem RdK.at_ (h : RdK k w B A rows) {i : Nat} {r : List Value} (hr : rows[i]? = some r) :
    ∃ b o, A = some ⟨b, o, none⟩ ∧ b < B ∧ ∀ j v, r[j]? = some v → w.cell? ⟨b, o + i * k + j, none⟩ = some v := by
  have hi : i < rows.length := (List.getElem?_eq_some_iff.1 hr).1
  obtain ⟨b, o, e, hlt, hc⟩ := h (by omega)
  exact ⟨b, o, e, hlt, hc i r hr⟩
end

/-! ### a disk's parts as data -/
abbrev LinkD := ByteArray × Int
structure TurnD where
  kind : Int
  name : ByteArray
  to_ : ByteArray
  id : Int
structure FileD where
  id : Int
  A : Option Addr
  n : Nat
  c : Nat
  safe : Int
  bytes : List Int
instance : Inhabited TurnD := ⟨⟨0, ByteArray.empty, ByteArray.empty, 0⟩⟩
instance : Inhabited FileD := ⟨⟨0, none, 0, 0, 0, []⟩⟩
def linkR (x : LinkD) : List Value := [.string x.1, .int .i64 x.2]
def turnR (x : TurnD) : List Value := [.int .i64 x.kind, .string x.name, .string x.to_, .int .i64 x.id]
def fileR (x : FileD) : List Value := [.int .i64 x.id, .slice x.A x.n x.c, .int .i64 x.safe]
def RdL (w : World) (B : Nat) (A : Option Addr) (ks : List LinkD) : Prop := RdK 2 w B A (ks.map linkR)
def RdT (w : World) (B : Nat) (A : Option Addr) (ts : List TurnD) : Prop := RdK 4 w B A (ts.map turnR)
def RdF (w : World) (B : Nat) (A : Option Addr) (fs : List FileD) : Prop := RdK 3 w B A (fs.map fileR)
section
variable {w w' : World} {B B' : Nat} {A : Option Addr}
theorem RdL.below {ks : List LinkD} (h : RdL w B A ks) (hB : B ≤ B') (hb : Below B' w w') : RdL w' B A ks := RdK.below h hB hb
theorem RdT.below {ks : List TurnD} (h : RdT w B A ks) (hB : B ≤ B') (hb : Below B' w w') : RdT w' B A ks := RdK.below h hB hb
theorem RdF.below {ks : List FileD} (h : RdF w B A ks) (hB : B ≤ B') (hb : Below B' w w') : RdF w' B A ks := RdK.below h hB hb
theorem RdL.more {ks : List LinkD} (h : RdL w B A ks) (hB : B ≤ B') : RdL w B' A ks := RdK.more h hB
theorem RdT.more {ks : List TurnD} (h : RdT w B A ks) (hB : B ≤ B') : RdT w B' A ks := RdK.more h hB
theorem RdF.more {ks : List FileD} (h : RdF w B A ks) (hB : B ≤ B') : RdF w B' A ks := RdK.more h hB
theorem RdL.at_ {ks : List LinkD} (h : RdL w B A ks) {i : Nat} (hi : i < ks.length) :
    ∃ b o, A = some ⟨b, o, none⟩ ∧ b < B ∧ w.cell? ⟨b, o + i * 2, none⟩ = some (.string ks[i].1) ∧ w.cell? ⟨b, o + i * 2 + 1, none⟩ = some (.int .i64 ks[i].2) := by
  obtain ⟨b, o, e, hlt, hc⟩ := RdK.at_ h (i := i) (r := linkR ks[i]) (by simp [hi])
  exact ⟨b, o, e, hlt, hc 0 _ rfl, hc 1 _ rfl⟩
theorem RdT.at_ {ks : List TurnD} (h : RdT w B A ks) {i : Nat} (hi : i < ks.length) :
    ∃ b o, A = some ⟨b, o, none⟩ ∧ b < B ∧ w.cell? ⟨b, o + i * 4, none⟩ = some (.int .i64 ks[i].kind) ∧ w.cell? ⟨b, o + i * 4 + 1, none⟩ = some (.string ks[i].name) ∧ w.cell? ⟨b, o + i * 4 + 2, none⟩ = some (.string ks[i].to_) ∧ w.cell? ⟨b, o + i * 4 + 3, none⟩ = some (.int .i64 ks[i].id) := by
  obtain ⟨b, o, e, hlt, hc⟩ := RdK.at_ h (i := i) (r := turnR ks[i]) (by simp [hi])
  exact ⟨b, o, e, hlt, hc 0 _ rfl, hc 1 _ rfl, hc 2 _ rfl, hc 3 _ rfl⟩
theorem RdF.at_ {ks : List FileD} (h : RdF w B A ks) {i : Nat} (hi : i < ks.length) :
    ∃ b o, A = some ⟨b, o, none⟩ ∧ b < B ∧ w.cell? ⟨b, o + i * 3, none⟩ = some (.int .i64 ks[i].id) ∧ w.cell? ⟨b, o + i * 3 + 1, none⟩ = some (.slice ks[i].A ks[i].n ks[i].c) ∧ w.cell? ⟨b, o + i * 3 + 2, none⟩ = some (.int .i64 ks[i].safe) := by
  obtain ⟨b, o, e, hlt, hc⟩ := RdK.at_ h (i := i) (r := fileR ks[i]) (by simp [hi])
  exact ⟨b, o, e, hlt, hc 0 _ rfl, hc 1 _ rfl, hc 2 _ rfl⟩
end
theorem bcell {W w1 : World} {B : Nat} (hb : Below B W w1) : (∀ b o, b < B → w1.cell? ⟨b, o, none⟩ = W.cell? ⟨b, o, none⟩) ∧ (∀ b o, b < B → w1.frozen? ⟨b, o, none⟩ = W.frozen? ⟨b, o, none⟩) :=
  ⟨fun b o h => hb.cell (p := ⟨b, o, none⟩) h, fun b o h => hb.frozen (p := ⟨b, o, none⟩) h⟩
theorem undrew {W v : World} {B : Nat} (h : Below B W.drew v) : Below B W v := ⟨h.os, h.tape, h.output, h.size, h.block⟩
end Go.Proofs.YtfkdfabbpebljaaGreat.Rows_
namespace Go.Proofs.YtfkdfabbpebljaaGreat.DOk
open Go.RowKit Go.Proofs.YtfkdfabbpebljaaGreat.Bytes Go.Proofs.YtfkdfabbpebljaaGreat.Rows_
set_option linter.unusedVariables false

/-- the id of the first link of that name, 0 where there is none -/
def findD : List LinkD → List UInt8 → Int
  | [], _ => 0
  | x :: r, s => if x.1.toList == s then x.2 else findD r s
theorem findD_hit : ∀ (ks : List LinkD) (s : List UInt8) (i : Nat) (hi : i < ks.length), (∀ j (hj : j < ks.length), j < i → (ks[j].1.toList == s) = false) → (ks[i].1.toList == s) = true → findD ks s = ks[i].2
  | x :: r, s, 0, _, _, h => by unfold findD; simp only [List.getElem_cons_zero] at h ⊢; rw [if_pos h]
  | x :: r, s, i + 1, hi, ha, h => by
    have h0 := ha 0 (by simp) (by omega)
    unfold findD
    simp only [List.getElem_cons_zero] at h0
    rw [h0]
    simp only [List.getElem_cons_succ] at h ⊢
    exact findD_hit r s i (by simpa using hi) (fun j hj hlt => by have := ha (j + 1) (by simpa using hj) (by omega); simpa using this) h
theorem findD_miss : ∀ (ks : List LinkD) (s : List UInt8), (∀ j (hj : j < ks.length), (ks[j].1.toList == s) = false) → findD ks s = 0
  | [], _, _ => rfl
  | x :: r, s, ha => by
    have h0 := ha 0 (by simp)
    unfold findD
    simp only [List.getElem_cons_zero] at h0
    rw [h0]
    exact findD_miss r s (fun j hj => by have := ha (j + 1) (by simpa using hj); simpa using this)

set_option maxRecDepth 100000 in
set_option maxHeartbeats 800000 in
theorem l02Find_any (A : Option Addr) (n c : Nat) (ks : List LinkD) (s : ByteArray) (w : World) (hr : RdL w w.heap.size A ks) (hl : ks.length = n) (hn : n ≤ 1099511627776) :
    Calls Tryz.prog 24 #[.slice A n c, .string s] w fun e w' => e = .returned (.int .i64 (findD ks s.toList)) ∧ Below w.heap.size w w' := by
  have HL := Lib.hid hl
  have HR := Lib.hid hr
  clear hl hr
  go_enter Tryz.func24, Tryz.ntmps24
  go_wp2_with fail
  go_loopw [9] (fun i wr => ∃ k : Nat, k ≤ n ∧ i = .int .i64 k ∧ Below w.heap.size w wr ∧ Hid (∀ j (hj : j < ks.length), j < k → (ks[j].1.toList == s.toList) = false)) (fun i _ => n - (intOf i).toNat)
  case atStart => exact ⟨0, Nat.zero_le _, rfl, Below.refl _ _, Lib.hid (fun j _ h => absurd h (by omega))⟩
  case round =>
    obtain ⟨k, hk, rfl, hb, HA⟩ := hrel
    by_cases hlt : k < n
    · have hlt' : k < ks.length := by rw [HL.out]; exact hlt
      obtain ⟨b, o, rfl, hB, hc0, hc1⟩ := (HR.out.below (Nat.le_refl _) hb).at_ hlt'
      have HB := Lib.hid hb
      have hz : w.heap.size ≤ wr.heap.size := hb.size
      clear hb
      cases he : (ks[k].1.toList == s.toList) <;> have HE := Lib.hid he
      · have HN := Lib.hid (fun j (hj : j < ks.length) (h : j < k + 1) => (by
          rcases Nat.lt_or_ge j k with h1 | h1
          · exact HA.out j hj h1
          · have : j = k := by omega
            subst this; exact HE.out : (ks[j].1.toList == s.toList) = false))
        generalize ks[k].1 = nm at *
        generalize ks[k].2 = id at *
        go_wp2_with fail
        exact ⟨⟨k + 1, by omega, by go_num, HB.out.alloc hz _, HN⟩, by simp [intOf]; omega⟩
      · have HV := Lib.hid (findD_hit ks s.toList k hlt' (fun j hj h => HA.out j hj h) HE.out)
        generalize ks[k].1 = nm at *
        generalize ks[k].2 = id at *
        go_wp2_with fail
        go_ret
        exact ⟨ret_int HV.out.symm, HB.out.alloc hz _⟩
    · obtain rfl : n = k := by omega
      have HV := Lib.hid (findD_miss ks s.toList (fun j hj => HA.out j hj (by have := HL.out; omega)))
      go_wp2_with fail
      go_ret
      exact ⟨ret_int HV.out.symm, hb⟩
end Go.Proofs.YtfkdfabbpebljaaGreat.DOk
namespace Go.Proofs.YtfkdfabbpebljaaGreat.DOk
open Go.RowKit Go.Proofs.YtfkdfabbpebljaaGreat.Bytes Go.Proofs.YtfkdfabbpebljaaGreat.Rows_
set_option linter.unusedVariables false

def OwnL (w : World) (base : Nat) (A : Option Addr) (n c : Nat) (ks : List LinkD) : Prop := w.ownsRow base 86 2 (.slice A n c) n (ks.map linkR).flatten
theorem flat_len (k : Nat) : ∀ (rows : List (List Value)), (∀ r ∈ rows, r.length = k) → rows.flatten.length = rows.length * k
  | [], _ => by simp
  | r :: rs, h => by
    rw [List.flatten_cons, List.length_append, h r (by simp), flat_len k rs (fun x hx => h x (by simp [hx])), List.length_cons, Nat.add_mul]
    omega
theorem flat_at (k : Nat) : ∀ (rows : List (List Value)), (∀ r ∈ rows, r.length = k) → ∀ (i : Nat) (r : List Value), rows[i]? = some r → ∀ (j : Nat) (v : Value), r[j]? = some v → rows.flatten[i * k + j]? = some v
  | [], _, i, r, h, _, _, _ => by simp at h
  | x :: rs, h, 0, r, hr, j, v, hv => by
    simp at hr; subst hr
    rw [List.flatten_cons, Nat.zero_mul, Nat.zero_add, List.getElem?_append_left (List.getElem?_eq_some_iff.1 hv).1]
    exact hv
  | x :: rs, h, i + 1, r, hr, j, v, hv => by
    simp at hr
    have hx := h x (by simp)
    rw [List.flatten_cons, List.getElem?_append_right (by rw [hx, Nat.add_mul]; omega), hx, show (i + 1) * k + j - k = i * k + j by rw [Nat.add_mul]; omega]
    exact flat_at k rs (fun y hy => h y (by simp [hy])) i r hr j v hv
theorem own_shapeK {w : World} {base : Nat} {e : TypeId} {size : Nat} {v : Value} {n : Nat} {xs : List Value} (h : w.ownsRow base e size v n xs) : ∃ A c, v = .slice A n c := by
  rcases h.2 with ⟨rfl, rfl⟩ | ⟨g, cap, cur, rfl, _⟩
  · exact ⟨none, 0, rfl⟩
  · exact ⟨_, cap, rfl⟩
theorem own_rdK {w : World} {base : Nat} {e : TypeId} {k : Nat} {A : Option Addr} {n c : Nat} {rows : List (List Value)} (hk : ∀ r ∈ rows, r.length = k) (hk0 : 0 < k) (h : w.ownsRow base e k (.slice A n c) n rows.flatten) : RdK k w w.heap.size A rows := by
  intro hn
  have hl : rows.length = n := by
    have := h.1; rw [flat_len k rows hk] at this; exact Nat.eq_of_mul_eq_mul_right hk0 this
  rcases h.2 with ⟨_, hz⟩ | ⟨g, cap, cur, hv, hb, hg, hnc, hm, hs, ht⟩
  · omega
  · injection hv with e1 e2 e3
    subst e1 e3
    refine ⟨g, 0, rfl, (Array.getElem?_eq_some_iff.1 hg).1, fun i r hr j v hv => ?_⟩
    have hi : i < rows.length := (List.getElem?_eq_some_iff.1 hr).1
    have hj : j < k := by rw [← hk r (List.mem_of_getElem? hr)]; exact (List.getElem?_eq_some_iff.1 hv).1
    have hlt : i * k + j < n * k := by
      have : (i + 1) * k ≤ n * k := Nat.mul_le_mul_right k (by omega)
      rw [Nat.add_mul] at this; omega
    rw [Nat.zero_add, World.ownsRow.cellAt (h := h) _ hlt]
    exact flat_at k rows hk i r hr j v hv
theorem link_len : ∀ (ks : List LinkD), ∀ r ∈ ks.map linkR, r.length = 2 := by
  intro ks r hr; simp at hr; obtain ⟨_, _, _, rfl⟩ := hr; rfl
theorem OwnL.rd {w : World} {base : Nat} {A : Option Addr} {n c : Nat} {ks : List LinkD} (h : OwnL w base A n c ks) : RdL w w.heap.size A ks := own_rdK (link_len ks) (by omega) h
theorem OwnL.len {w : World} {base : Nat} {A : Option Addr} {n c : Nat} {ks : List LinkD} (h : OwnL w base A n c ks) : ks.length = n := by
  have := h.1; rw [flat_len 2 _ (link_len ks)] at this; simp at this; omega
theorem OwnL.blk {w : World} {base : Nat} {A : Option Addr} {n c : Nat} {ks : List LinkD} (h : OwnL w base A n c ks) : ∀ g, (Value.slice A n c).ownBlock = some g → base ≤ g ∧ g < w.heap.size := World.ownsRow.lt h
theorem OwnL.alloc {w : World} {base : Nat} {A : Option Addr} {n c : Nat} {ks : List LinkD} (h : OwnL w base A n c ks) (o : Obj) : OwnL (w.alloc o) base A n c ks := World.ownsRow.alloc h o
theorem OwnL.below {w w' : World} {base B : Nat} {A : Option Addr} {n c : Nat} {ks : List LinkD} (h : OwnL w base A n c ks) (hB : w.heap.size ≤ B) (hb : Below B w w') : OwnL w' base A n c ks := by
  refine ⟨h.1, ?_⟩
  rcases h.2 with h0 | ⟨g, cap, cur, hv, hbb, hg, rest⟩
  · exact .inl h0
  · have hlt : g < w.heap.size := (Array.getElem?_eq_some_iff.1 hg).1
    exact .inr ⟨g, cap, cur, hv, hbb, by rw [hb.block g (by omega)]; exact hg, rest⟩
theorem OwnL.more {w : World} {base base' : Nat} {A : Option Addr} {n c : Nat} {ks : List LinkD} (h : OwnL w base A n c ks) (hB : base' ≤ base) : OwnL w base' A n c ks := by
  refine ⟨h.1, ?_⟩
  rcases h.2 with h0 | ⟨g, cap, cur, hv, hbb, rest⟩
  · exact .inl h0
  · exact .inr ⟨g, cap, cur, hv, by omega, rest⟩

theorem own_empty (w : World) (E k : Nat) : (w.alloc (.cells #[] E)).ownsRow w.heap.size E k (.slice (some ⟨w.heap.size, 0, none⟩) 0 0) 0 [] :=
  ⟨by simp, .inr ⟨w.heap.size, 0, #[], rfl, Nat.le_refl _, heap_alloc_new w _, Nat.le_refl _, by unfold maxLen; omega, by simp, by simp⟩⟩
theorem linkInfo : (Tryz.prog.info? 86).map (fun i => (i.zero, i.size, i.bytes)) = some (some (.agg #[.string ByteArray.empty, .int .i64 0]), 2, 24) := by kernel_rfl

/-- 'out = append(out, x)', one link, which the walk has laid in a block of its own -/
theorem append_link {wr : World} {ops : Array Oper} {rest : List Oper} {o : Oper} {a : Act} {Q : Exit → Act → World → Prop} (hgd : o.guard = none) (s x : Operand)
    (ho : o.op = .call { callee := .builtin .append, args := #[s, x], argTypes := #[33, 33] })
    {base n c : Nat} {A : Option Addr} {ks : List LinkD} {nm : ByteArray} {id : Int} (hs : a.eval s = .slice A n c) (H : Nat) (hx : a.eval x = .slice (some ⟨H, 0, none⟩) 1 1) (hH : wr.heap.size = H)
    (hown : OwnL wr base A n c ks) (hn : n ≤ 2199023255552) (hbase : base ≤ wr.heap.size)
    (h : ∀ A' c' w', OwnL w' base A' (n + 1) c' (ks ++ [(nm, id)]) → Below base wr w' → (wr.alloc (.cells #[.string nm, .int .i64 id] 86)).grownBy w' (Value.slice A n c).ownBlock → wpList Tryz.prog ops Q rest (a.put o.dst (.slice A' (n + 1) c')) w') :
    wpList Tryz.prog ops Q (o :: rest) a (wr.alloc (.cells #[.string nm, .int .i64 id] 86)) := by
  subst hH
  obtain ⟨i0, hi, hz0, hz1, hz2⟩ := info_parts linkInfo
  refine wpList_append_own _ hgd s x 33 ho base 86 i0 (.agg #[.string ByteArray.empty, .int .i64 0]) 2 24 Tryz.underlying33 hi hz0 hz1 hz2 rfl (by decide) _ _ _ hs (World.ownsRow.alloc hown _) ⟨wr.heap.size, 0, none⟩ 1 1 [.string nm, .int .i64 id] hx rfl ?_ ?_ ?_ ?_ ?_ ?_
  · intro j u hj
    match j, hj with
    | 0, hj => simp at hj; subst hj; simp [Addr.add]
    | 1, hj => simp at hj; subst hj; simp [Addr.add]
  · intro u hu; simp at hu; rcases hu with rfl | rfl <;> rfl
  · unfold maxLen; omega
  · omega
  · simp; omega
  · intro v' w' hown' hgrow _
    have e : (ks.map linkR).flatten ++ [.string nm, .int .i64 id] = ((ks ++ [(nm, id)]).map linkR).flatten := by simp [linkR]
    rw [e] at hown'
    obtain ⟨A', c', rfl⟩ := own_shapeK hown'
    exact h A' c' w' hown' (((Below.refl _ _).alloc hbase _).grown hgrow (by simp; omega) (fun g hg => (hown.blk g hg).1)) hgrow

def lessD (ks : List LinkD) (s : List UInt8) : List LinkD := ks.filter fun x => !(x.1.toList == s)
theorem lessD_snoc (ks : List LinkD) (s : List UInt8) (k : Nat) (h : k < ks.length) : lessD (ks.take (k + 1)) s = if (ks[k].1.toList == s) = true then lessD (ks.take k) s else lessD (ks.take k) s ++ [(ks[k].1, ks[k].2)] := by
  rw [List.take_succ_eq_append_getElem h]
  unfold lessD
  rw [List.filter_append]
  cases hc : (ks[k].1.toList == s) <;> simp [hc]
theorem lessD_le (ks : List LinkD) (s : List UInt8) : (lessD ks s).length ≤ ks.length := List.length_filter_le _ _
theorem take_le' {α : Type} (l : List α) (k : Nat) : (l.take k).length ≤ k := by simp; omega

set_option maxRecDepth 100000 in
set_option maxHeartbeats 1600000 in
theorem l02Less_any (A : Option Addr) (n c : Nat) (ks : List LinkD) (s : ByteArray) (w : World) (hr : RdL w w.heap.size A ks) (hl : ks.length = n) (hn : n ≤ 1099511627776) :
    Calls Tryz.prog 81 #[.slice A n c, .string s] w fun e w' => ∃ A' c', e = .returned (.slice A' (lessD ks s.toList).length c') ∧ OwnL w' w.heap.size A' (lessD ks s.toList).length c' (lessD ks s.toList) ∧ Below w.heap.size w w' := by
  have HL := Lib.hid hl
  have HR := Lib.hid hr
  clear hl hr
  go_enter Tryz.func81, Tryz.ntmps81
  go_wp2_with fail
  go_loopw [5, 11] (fun v i wr => ∃ k A' c', k ≤ n ∧ i = .int .i64 (k : Nat) ∧ v = .slice A' (lessD (ks.take k) s.toList).length c' ∧ OwnL wr w.heap.size A' (lessD (ks.take k) s.toList).length c' (lessD (ks.take k) s.toList) ∧ Below w.heap.size w wr) (fun _ i _ => n - (intOf i).toNat)
  case atStart => exact ⟨0, _, _, Nat.zero_le _, rfl, rfl, own_empty w _ _, (Below.refl _ _).alloc (Nat.le_refl _) _⟩
  case round =>
    obtain ⟨k, A', c', hk, rfl, rfl, ho, hb⟩ := hrel
    have hz : w.heap.size ≤ wr.heap.size := hb.size
    by_cases hlt : k < n
    · have hlt' : k < ks.length := by rw [HL.out]; exact hlt
      have hS := lessD_snoc ks s.toList k hlt'
      have hle : (lessD (ks.take k) s.toList).length ≤ k := Nat.le_trans (lessD_le _ _) (take_le' _ _)
      obtain ⟨b, o, rfl, hB, hc0, hc1⟩ := (HR.out.below (Nat.le_refl _) hb).at_ hlt'
      have HB := Lib.hid hb
      clear hb
      cases he : (ks[k].1.toList == s.toList)
      · rw [he] at hS
        have hne : (!(ks[k].1.toList == s.toList)) = true := by rw [he]; rfl
        have HS := Lib.hid (show lessD (ks.take (k + 1)) s.toList = lessD (ks.take k) s.toList ++ [(ks[k].1, ks[k].2)] by simpa using hS)
        clear hS
        generalize ks[k].1 = nm at *
        generalize ks[k].2 = id at *
        generalize lessD (ks.take k) s.toList = L at *
        have ho1 := ho.alloc (.cells #[.string nm, .int .i64 id] 86)
        go_wp2_with (at_builtin; refine append_link rfl _ _ rfl rfl (wr.heap.size + 1) rfl (by simp) ho1 (by omega) (by simp; omega) ?_)
        intro A2 c2 w2 ho2 hb2 hg2
        have HO := Lib.hid (show OwnL w2 w.heap.size A2 (lessD (ks.take (k + 1)) s.toList).length c2 (lessD (ks.take (k + 1)) s.toList) by rw [HS.out, List.length_append]; exact ho2)
        have HB2 := Lib.hid ((HB.out.alloc hz _).trans hb2)
        have HN := Lib.hid (show L.length + 1 = (lessD (ks.take (k + 1)) s.toList).length by rw [HS.out, List.length_append]; rfl)
        clear ho ho1 ho2 hb2 hg2
        go_wp2_with fail
        exact ⟨⟨k + 1, A2, c2, by omega, by go_num, by rw [HN.out], HO.out, HB2.out⟩, by simp [intOf]; omega⟩
      · rw [he] at hS
        have hne : (!(ks[k].1.toList == s.toList)) = false := by rw [he]; rfl
        have HS := Lib.hid (show lessD (ks.take (k + 1)) s.toList = lessD (ks.take k) s.toList by simpa using hS)
        clear hS he
        generalize ks[k].1 = nm at *
        generalize ks[k].2 = id at *
        have HO := Lib.hid (ho.alloc (.cells #[.string nm, .int .i64 id] 86))
        clear ho
        go_wp2_with fail
        exact ⟨⟨k + 1, A', c', by omega, by go_num, by rw [HS.out], by rw [HS.out]; exact HO.out, HB.out.alloc hz _⟩, by simp [intOf]; omega⟩
    · obtain rfl : n = k := by omega
      have e : ks.take n = ks := List.take_of_length_le (by rw [HL.out]; exact Nat.le_refl _)
      rw [e] at ho ⊢
      go_wp2_with fail
      go_ret
      exact ⟨_, _, rfl, ho, hb⟩
end Go.Proofs.YtfkdfabbpebljaaGreat.DOk
namespace Go.Proofs.YtfkdfabbpebljaaGreat.DOk
open Go.RowKit Go.Proofs.YtfkdfabbpebljaaGreat.Bytes Go.Proofs.YtfkdfabbpebljaaGreat.Rows_
set_option linter.unusedVariables false

theorem append_int {wr : World} {ops : Array Oper} {rest : List Oper} {o : Oper} {a : Act} {Q : Exit → Act → World → Prop} (hgd : o.guard = none) (s x : Operand)
    (ho : o.op = .call { callee := .builtin .append, args := #[s, x], argTypes := #[85, 85] })
    {base n c : Nat} {A : Option Addr} {zs : List Int} {z : Int} (hs : a.eval s = .slice A n c) (H : Nat) (hx : a.eval x = .slice (some ⟨H, 0, none⟩) 1 1) (hH : wr.heap.size = H)
    (hown : OwnI wr base A n c zs) (hn : n ≤ 2199023255552) (hbase : base ≤ wr.heap.size)
    (h : ∀ A' c' w', OwnI w' base A' (n + 1) c' (zs ++ [z]) → Below base wr w' → (wr.alloc (.cells #[.int .i64 z] 3)).grownBy w' (Value.slice A n c).ownBlock → wpList Tryz.prog ops Q rest (a.put o.dst (.slice A' (n + 1) c')) w') :
    wpList Tryz.prog ops Q (o :: rest) a (wr.alloc (.cells #[.int .i64 z] 3)) := by
  subst hH
  obtain ⟨i0, hi, hz0, hz1, hz2⟩ := info_parts intInfo
  refine wpList_append_own _ hgd s x 85 ho base 3 i0 (.int .i64 0) 1 8 Tryz.underlying85 hi hz0 hz1 hz2 rfl (by decide) _ _ _ hs (World.ownsRow.alloc hown _) ⟨wr.heap.size, 0, none⟩ 1 1 [.int .i64 z] hx rfl ?_ ?_ ?_ ?_ ?_ ?_
  · intro j u hj
    match j, hj with
    | 0, hj => simp at hj; subst hj; simp [Addr.add]
  · intro u hu; simp at hu; rw [hu]; rfl
  · unfold maxLen; omega
  · omega
  · simp; omega
  · intro v' w' hown' hgrow _
    have e : iv zs ++ [.int .i64 z] = iv (zs ++ [z]) := by simp [iv]
    rw [e] at hown'
    obtain ⟨A', c', rfl⟩ := own_shapeK hown'
    exact h A' c' w' hown' (((Below.refl _ _).alloc hbase _).grown hgrow (by simp; omega) (fun g hg => (hown.blk g hg).1)) hgrow

/-! ### l02HasInt -/
def hasI (zs : List Int) (z : Int) : Bool := zs.any (· == z)
theorem hasI_hit (zs : List Int) (z : Int) (k : Nat) (hk : k < zs.length) (h : (zs[k] == z) = true) : hasI zs z = true := by
  unfold hasI; rw [List.any_eq_true]; exact ⟨zs[k], List.getElem_mem hk, h⟩
theorem hasI_miss (zs : List Int) (z : Int) (h : ∀ k (hk : k < zs.length), (zs[k] == z) = false) : hasI zs z = false := by
  unfold hasI; rw [List.any_eq_false]
  intro x hx
  obtain ⟨k, hk, rfl⟩ := List.getElem_of_mem hx
  simp [h k hk]

set_option maxRecDepth 100000 in
set_option maxHeartbeats 800000 in
theorem l02HasInt_any (A : Option Addr) (n c : Nat) (zs : List Int) (z : Int) (w : World) (B : Nat) (hr : RdI w B A zs) (hl : zs.length = n) (hn : n ≤ 1099511627776) :
    Calls Tryz.prog 54 #[.slice A n c, .int .i64 z] w fun e w' => e = .returned (.bool (hasI zs z)) ∧ w = w' := by
  have HL := Lib.hid hl
  have HR := Lib.hid hr
  clear hl hr
  go_enter Tryz.func54, Tryz.ntmps54
  go_wp2_with fail
  go_loop [9] (fun i => ∃ k : Nat, k ≤ n ∧ i = .int .i64 k ∧ Hid (∀ j (hj : j < zs.length), j < k → (zs[j] == z) = false)) (fun i => n - (intOf i).toNat)
  case atStart => exact ⟨0, Nat.zero_le _, rfl, Lib.hid (fun j _ h => absurd h (by omega))⟩
  case round =>
    obtain ⟨k, hk, rfl, HA⟩ := hrel
    by_cases hlt : k < n
    · have hlt' : k < zs.length := by rw [HL.out]; exact hlt
      obtain ⟨b, o, rfl, hB, hc⟩ := HR.out.at_ hlt'
      cases he : (zs[k] == z) <;> have HE := Lib.hid he
      · have HN := Lib.hid (fun j (hj : j < zs.length) (h : j < k + 1) => (by
          rcases Nat.lt_or_ge j k with h1 | h1
          · exact HA.out j hj h1
          · have : j = k := by omega
            subst this; exact HE.out : (zs[j] == z) = false))
        generalize zs[k] = x at *
        go_wp2_with fail
        exact ⟨⟨k + 1, by omega, by go_num, HN⟩, by simp [intOf]; omega⟩
      · have HV := Lib.hid (hasI_hit zs z k hlt' HE.out)
        generalize zs[k] = x at *
        go_wp2_with fail
        go_ret
        exact ⟨Bytes.ret_bool HV.out.symm, rfl⟩
    · obtain rfl : n = k := by omega
      have HV := Lib.hid (hasI_miss zs z (fun j hj => HA.out j hj (by have := HL.out; omega)))
      go_wp2_with fail
      go_ret
      exact ⟨Bytes.ret_bool HV.out.symm, rfl⟩

/-! ### l02Used -/
def usedD (fs : List FileD) : Nat := (fs.map (·.n)).sum
theorem used_snoc (fs : List FileD) (k : Nat) (h : k < fs.length) : usedD (fs.take (k + 1)) = usedD (fs.take k) + fs[k].n := by
  rw [List.take_succ_eq_append_getElem h]; unfold usedD; rw [List.map_append, List.sum_append]; simp only [List.map_cons, List.map_nil, List.sum_cons, List.sum_nil, Nat.add_zero]
theorem used_take (fs : List FileD) (k : Nat) : usedD (fs.take k) ≤ usedD fs := by
  have h : usedD fs = usedD (fs.take k) + usedD (fs.drop k) := by
    unfold usedD; rw [← List.sum_append, ← List.map_append, List.take_append_drop]
  omega
/-- a disk's value -/
def diskV (room fuse next : Int) (F : Option Addr) (nf cf : Nat) (K : Option Addr) (nk ck : Nat) (T : Option Addr) (nt ct : Nat) : Value :=
  .agg #[.int .i64 room, .int .i64 fuse, .int .i64 next, .slice F nf cf, .slice K nk ck, .slice T nt ct]

set_option maxRecDepth 100000 in
set_option maxHeartbeats 1600000 in
theorem l02Used_any (room fuse next : Int) (F : Option Addr) (nf cf : Nat) (K : Option Addr) (nk ck : Nat) (T : Option Addr) (nt ct : Nat) (fs : List FileD) (w : World) (hr : RdF w w.heap.size F fs) (hl : fs.length = nf) (hn : nf ≤ 1099511627776) (hu : usedD fs ≤ 1099511627776) :
    Calls Tryz.prog 26 #[.agg #[.int .i64 room, .int .i64 fuse, .int .i64 next, .slice F nf cf, .slice K nk ck, .slice T nt ct]] w fun e w' => e = .returned (.int .i64 (usedD fs : Nat)) ∧ Below w.heap.size w w' := by
  have HL := Lib.hid hl
  have HR := Lib.hid hr
  have hut := Lib.hid (used_take fs)
  clear hl hr
  go_enter Tryz.func26, Tryz.ntmps26
  go_wp2_with fail
  go_loopw [3, 9] (fun u i wr => ∃ k : Nat, k ≤ nf ∧ i = .int .i64 k ∧ u = .int .i64 (usedD (fs.take k) : Nat) ∧ Below w.heap.size w wr) (fun _ i _ => nf - (intOf i).toNat)
  case atStart => exact ⟨0, Nat.zero_le _, rfl, rfl, (Below.refl _ _).alloc (Nat.le_refl _) _⟩
  case round =>
    obtain ⟨k, hk, rfl, rfl, hb⟩ := hrel
    have hz : w.heap.size ≤ wr.heap.size := hb.size
    by_cases hlt : k < nf
    · have hlt' : k < fs.length := by rw [HL.out]; exact hlt
      obtain ⟨b, o, rfl, hB, hc0, hc1, hc2⟩ := (HR.out.below (Nat.le_refl _) hb).at_ hlt'
      have HB := Lib.hid hb
      have HS := Lib.hid (used_snoc fs k hlt')
      have hS : usedD (fs.take k) + fs[k].n ≤ 1099511627776 := by have := hut.out (k + 1); rw [HS.out] at this; omega
      generalize fs[k].id = x0 at *
      generalize fs[k].A = x1 at *
      generalize fs[k].n = x2 at *
      generalize fs[k].c = x3 at *
      generalize fs[k].safe = x4 at *
      clear hb
      go_wp2_with fail
      exact ⟨⟨k + 1, by omega, by go_num, by rw [HS.out]; go_num, HB.out.alloc hz _⟩, by simp [intOf]; omega⟩
    · obtain rfl : nf = k := by omega
      have e : fs.take nf = fs := List.take_of_length_le (by rw [HL.out]; exact Nat.le_refl _)
      rw [e]
      go_wp2_with fail
      go_ret
      exact ⟨rfl, hb⟩
end Go.Proofs.YtfkdfabbpebljaaGreat.DOk
namespace Go.Proofs.YtfkdfabbpebljaaGreat.Bytes
open Go.RowKit
set_option linter.unusedVariables false
/-! ### eqByteS: two slices hold the same -/
def eqB (xs ys : List Int) : Bool := decide (xs = ys)
theorem eqB_len {xs ys : List Int} (h : xs.length ≠ ys.length) : eqB xs ys = false := by
  unfold eqB; exact decide_eq_false fun e => h (by rw [e])
theorem eqB_at {xs ys : List Int} {k : Nat} (h : xs.getD k 0 ≠ ys.getD k 0) : eqB xs ys = false := by
  unfold eqB; exact decide_eq_false fun e => h (by rw [e])
theorem eqB_all {xs ys : List Int} (hl : xs.length = ys.length) (h : ∀ k, k < xs.length → xs.getD k 0 = ys.getD k 0) : eqB xs ys = true := by
  unfold eqB
  refine decide_eq_true (List.ext_getElem hl fun k h1 h2 => ?_)
  have := h k h1
  simpa [List.getD, h1, h2] using this

set_option maxRecDepth 100000 in
set_option maxHeartbeats 800000 in
theorem eqByteS_any (A A' : Option Addr) (n c m c' : Nat) (xs ys : List Int) (w : World) (hx : Rd w w.heap.size A xs) (hy : Rd w w.heap.size A' ys) (hl : xs.length = n) (hm : ys.length = m) (hn : n ≤ 1099511627776) (hn' : m ≤ 1099511627776) :
    Calls Tryz.prog 41 #[.slice A n c, .slice A' m c'] w fun e w' => e = .returned (.bool (eqB xs ys)) ∧ ∃ j, w' = w.drewN j := by
  by_cases hnm : n = m
  · subst hnm
    have HL := Lib.hid hl
    have HM := Lib.hid hm
    clear hl hm
    go_enter Tryz.func41, Tryz.ntmps41
    go_wp2
    go_loopw [5] (fun i wr => ∃ k j : Nat, k ≤ n ∧ i = .int .i64 k ∧ (∀ t, t < k → xs.getD t 0 = ys.getD t 0) ∧ wr = w.drewN j) (fun i _ => n - (intOf i).toNat)
    case atStart => exact ⟨0, 0, Nat.zero_le _, rfl, fun t ht => by omega, rfl⟩
    case round =>
      obtain ⟨k, j, hk, rfl, ha, rfl⟩ := hrel
      have HA := Lib.hid ha
      clear ha
      by_cases hlt : k < n
      · obtain ⟨b, o, rfl, hB, hc⟩ := hx.at_ (k := k) (by rw [HL.out]; exact hlt)
        obtain ⟨b', o', rfl, hB', hc'⟩ := hy.at_ (k := k) (by rw [HM.out]; exact hlt)
        obtain ⟨z, hz⟩ : ∃ z, z = xs.getD k 0 := ⟨_, rfl⟩
        obtain ⟨z', hz'⟩ : ∃ z, z = ys.getD k 0 := ⟨_, rfl⟩
        rw [← hz] at hc
        rw [← hz'] at hc'
        have HZ := Lib.hid hz
        have HZ' := Lib.hid hz'
        clear hx hy hz hz'
        by_cases he : z = z'
        · have heb : (z != z') = false := by simp [he]
          have HE := Lib.hid he
          clear he
          go_wp2
          go_quiet (fail)
          go_wp2
          refine ⟨⟨k + 1, _, by omega, by go_num, fun t ht => ?_, rfl⟩, by simp [intOf]; omega⟩
          rcases Nat.lt_or_ge t k with h1 | h1
          · exact HA.out t h1
          · obtain rfl : t = k := by omega
            rw [← HZ.out, ← HZ'.out, HE.out]
        · have heb : (z != z') = true := by simp [he]
          have HE := Lib.hid he
          clear he
          go_wp2
          go_quiet (fail)
          go_wp2
          go_ret
          have hf := eqB_at (xs := xs) (ys := ys) (k := k) (by rw [← HZ.out, ← HZ'.out]; exact HE.out)
          exact ⟨ret_bool hf.symm, j + nq, by simp [World.drewN_drewN]⟩
      · obtain rfl : n = k := by omega
        have HE := Lib.hid (eqB_all (xs := xs) (ys := ys) (by rw [HL.out, HM.out]) (fun t ht => HA.out t (by have := HL.out; omega)))
        go_wp2
        go_ret
        exact ⟨ret_bool HE.out.symm, _, rfl⟩
  · have HE := Lib.hid (eqB_len (xs := xs) (ys := ys) (by omega))
    have hne : (!((n : Int) == (m : Int))) = true := by simp; omega
    go_enter Tryz.func41, Tryz.ntmps41
    go_wp2
    go_ret
    exact ⟨ret_bool HE.out.symm, 0, rfl⟩

/-! ### markByteS writes k, k + 1, .. (as bytes) into a slice of the call's own; heldByteS finds them there -/
def marks (n : Nat) (k : Int) : List Int := (List.range n).map fun i : Nat => (k + (i : Int)) % 256
def mpart (zs : List Int) (n : Nat) (k : Int) (i : Nat) : List Int := (marks n k).take i ++ zs.drop i
theorem marks_len (n : Nat) (k : Int) : (marks n k).length = n := by simp [marks]
theorem marks_at {n : Nat} (k : Int) {i : Nat} (h : i < n) : (marks n k).getD i 0 = (k + (i : Int)) % 256 := by simp [marks, List.getD, h]
theorem marks_rng (n : Nat) (k : Int) : Rng (marks n k) := by
  intro z hz
  unfold marks at hz
  obtain ⟨i, _, rfl⟩ := List.mem_map.1 hz
  omega
theorem mpart_set {zs : List Int} {n : Nat} (k : Int) {i : Nat} (hl : zs.length = n) (h : i < n) : (mpart zs n k i).set i ((k + (i : Int)) % 256) = mpart zs n k (i + 1) := by
  have e : (marks n k)[i]'(by rw [marks_len]; exact h) = (k + (i : Int)) % 256 := by simp [marks]
  unfold mpart
  rw [List.set_append_right _ _ (by simp only [List.length_take]; omega), show i - (List.take i (marks n k)).length = 0 from (by have := marks_len n k; simp only [List.length_take, this]; omega),
    List.drop_eq_getElem_cons (by omega), List.set_cons_zero, List.take_succ_eq_append_getElem (by rw [marks_len]; exact h), e, List.append_assoc]
  rfl
theorem mpart_end {zs : List Int} {n : Nat} (k : Int) (hl : zs.length = n) : mpart zs n k n = marks n k := by
  unfold mpart; rw [List.take_of_length_le (by rw [marks_len]; omega), List.drop_of_length_le (by omega), List.append_nil]
theorem mpart_len {zs : List Int} {n : Nat} (k : Int) (i : Nat) (hl : zs.length = n) (h : i ≤ n) : (mpart zs n k i).length = n := by simp [mpart, marks_len]; omega

theorem eqB_refl (xs : List Int) : eqB xs xs = true := by simp [eqB]
theorem eqByteS_yes (A A' : Option Addr) (n c m c' : Nat) (xs : List Int) (w : World) (hx : Rd w w.heap.size A xs) (hy : Rd w w.heap.size A' xs) (hl : xs.length = n) (hm : xs.length = m) (hn : n ≤ 1099511627776) :
    Calls Tryz.prog 41 #[.slice A n c, .slice A' m c'] w fun e w' => e = .returned (.bool true) ∧ Below w.heap.size w w' := by
  refine (eqByteS_any A A' n c m c' xs xs w hx hy hl hm hn (by omega)).mono ?_
  rintro e w' ⟨rfl, j, rfl⟩
  exact ⟨by rw [eqB_refl], below_drewN (Below.refl _ _) j⟩

end Go.Proofs.YtfkdfabbpebljaaGreat.Bytes
namespace Go.Proofs.YtfkdfabbpebljaaGreat.Bytes
open Go.RowKit
set_option linter.unusedVariables false
/-! ### toByteS: a copy -/
def part (zs : List Int) (n k : Nat) : List Int := zs.take k ++ List.replicate (n - k) 0
theorem part_set {zs : List Int} {n k : Nat} (hl : zs.length = n) (hk : k < n) : (part zs n k).set k (zs.getD k 0) = part zs n (k + 1) := by
  have e : zs.getD k 0 = zs[k] := by simp [List.getD, show k < zs.length by omega]
  unfold part
  rw [e, show n - k = (n - (k + 1)) + 1 by omega, List.replicate_succ, List.set_append_right _ _ (by simp; omega)]
  simp [show k - min k zs.length = 0 by omega]
  rw [List.take_succ_eq_append_getElem (by omega), List.append_assoc]
  rfl
theorem part_end {zs : List Int} {n : Nat} (hl : zs.length = n) : part zs n n = zs := by
  unfold part; rw [List.take_of_length_le (by omega)]; simp
theorem bv_set (zs : List Int) (k : Nat) (z : Int) : (bv zs).set k (.int .u8 z) = bv (zs.set k z) := by simp [bv]

set_option maxRecDepth 100000 in
set_option maxHeartbeats 800000 in
theorem toByteS_any (A : Option Addr) (n c : Nat) (zs : List Int) (w : World) (hr : Rd w w.heap.size A zs) (hl : zs.length = n) (hn : n ≤ 1099511627776) :
    Calls Tryz.prog 31 #[.slice A n c] w fun e w' => ∃ A' c', e = .returned (.slice A' n c') ∧ Own w' w.heap.size A' n c' zs ∧ Below w.heap.size w w' := by
  obtain ⟨i0, hi, hz0, hz1, hz2⟩ := info_parts Tryzinfo
  have hm : n ≤ maxLen := by unfold maxLen; omega
  have HL := Lib.hid hl
  clear hl
  go_enter Tryz.func31, Tryz.ntmps31
  go_wp2_with (at_make; refine wpList_make_full _ rfl _ _ 27 rfl w.heap.size 5 i0 (.int .u8 0) 1 Tryz.underlying27 hi hz0 hz1 _ _ _ _ n rfl rfl rfl rfl ?c1 hm (Nat.le_refl _) ?_)
  case c1 => rw [hz2]; omega
  intro w1 hown hgrow
  have hown' : Own w1 w.heap.size (some ⟨w.heap.size, 0, none⟩) n n (part zs n 0) := by
    unfold Own
    have e : bv (part zs n 0) = (madeCells #[Value.int .u8 0] n).toList := by
      simp [part, bv, toList_madeCells_one]
    rw [e]; exact hown
  have hb1 : Below w.heap.size w w1 := (Below.refl _ _).grown hgrow (Nat.le_refl _) (by simp)
  clear hown hgrow
  go_wp2
  go_loopw [4] (fun i wr => ∃ k : Nat, k ≤ n ∧ i = .int .i64 k ∧ Own wr w.heap.size (some ⟨w.heap.size, 0, none⟩) n n (part zs n k) ∧ Below w.heap.size w wr) (fun i _ => n - (intOf i).toNat)
  case atStart => exact ⟨0, Nat.zero_le _, rfl, hown', hb1⟩
  case round =>
    obtain ⟨k, hk, rfl, ho, hb⟩ := hrel
    clear hown' hb1
    by_cases hlt : k < n
    · obtain ⟨b, o, rfl, hB, hc0⟩ := hr.at_ (k := k) (by rw [HL.out]; exact hlt)
      have hc := (hb.cell (p := ⟨b, o + k, none⟩) hB).trans hc0
      have hd := World.ownsRow.cellAt (h := ho) k (by omega)
      have hf := World.ownsRow.frozenAt (h := ho) k
      have hd' : ∃ u, wr.cell? ⟨w.heap.size, k, none⟩ = some u := by
        rw [hd]; exact ⟨_, List.getElem?_eq_getElem (by have := HL.out; simp [bv, part]; omega)⟩
      obtain ⟨u, hu⟩ := hd'
      have hs := World.ownsRow.stored (h := ho) k (.int .u8 (zs.getD k 0))
      rw [bv_set, part_set HL.out hlt] at hs
      have HS := Lib.hid hs.1
      have HB := Lib.hid hb
      clear hs hd hc0 ho hb hr
      generalize zs.getD k 0 = z at *
      go_wp2
      go_roundw
      case rel => exact ⟨k + 1, by omega, by go_num, HS.out, HB.out.setCell (by simp) _⟩
      case measure => simp [intOf]; omega
    · obtain rfl : n = k := by omega
      rw [part_end HL.out] at ho
      go_wp2
      go_ret
      exact ⟨_, _, rfl, ho, hb⟩

end Go.Proofs.YtfkdfabbpebljaaGreat.Bytes
namespace Go.Proofs.YtfkdfabbpebljaaGreat.OpOk
open Go.RowKit Go.Proofs.YtfkdfabbpebljaaGreat.Bytes
set_option linter.unusedVariables false

set_option maxRecDepth 100000 in
set_option maxHeartbeats 400000 in
theorem szByteS_any (A : Option Addr) (n c : Nat) (left : Int) (w : World) (hn : n ≤ 9223372036854775807) (h0 : 0 ≤ left) (h1 : left ≤ 1048576) :
    Calls Tryz.prog 18 #[.slice A n c, .int .i64 left] w fun e w' => e = .returned (.int .i64 (if left < n then -1 else left - n)) ∧ w = w' := by
  by_cases h : left < n
  · have HI := Lib.hid (if_pos h : (if left < (n : Int) then (-1 : Int) else left - n) = -1)
    have h' : left - (n : Int) < 0 := by omega
    go_enter Tryz.func18, Tryz.ntmps18
    go_wp2_with fail
    go_ret
    exact ⟨rfl, rfl⟩
  · have HI := Lib.hid (if_neg h : (if left < (n : Int) then (-1 : Int) else left - n) = left - n)
    have h' : 0 ≤ left - (n : Int) := by omega
    go_enter Tryz.func18, Tryz.ntmps18
    go_wp2_with fail
    go_ret
    exact ⟨rfl, rfl⟩
theorem bcell {W w1 : World} (hb : Below W.heap.size W w1) : (∀ b o, b < W.heap.size → w1.cell? ⟨b, o, none⟩ = W.cell? ⟨b, o, none⟩) ∧ (∀ b o, b < W.heap.size → w1.frozen? ⟨b, o, none⟩ = W.frozen? ⟨b, o, none⟩) :=
  ⟨fun b o h => hb.cell (p := ⟨b, o, none⟩) h, fun b o h => hb.frozen (p := ⟨b, o, none⟩) h⟩
/-- a store into a block that is not the own row's leaves it -/
theorem own_set {w : World} {base : Nat} {A : Option Addr} {n c : Nat} {zs : List Int} (h : Own w base A n c zs) (b i : Nat) (v : Value) (hb : b < base) : Own (w.setCell ⟨b, i, none⟩ v) base A n c zs :=
  h.keep (Go.Lib.grownBy_setCell w b i v) (fun g hg e => by have := (h.blk g hg).1; injection e with e; omega)

end Go.Proofs.YtfkdfabbpebljaaGreat.OpOk
