/- Words for byte slices: what reads as a list, what the call owns; how these facts are carried along. No function of the program is named. -/
import Derived.Test.YtmjainacnhobnaaRows
import Derived.WalkKit
import Derived.WalkSmall
import Derived.Deep.QuietTactic
import Derived.BigQuiet
import Derived.Lib.Hide
namespace Go.Proofs.Ytmjainacnhobnaa.Bytes
open Go.RowKit
set_option linter.unusedVariables false

/-! ### a slice that reads as a list of bytes; a slice of the call's own -/
def bv (zs : List Int) : List Value := zs.map (Value.int .u8)
def Rng (zs : List Int) : Prop := ∀ z ∈ zs, 0 ≤ z ∧ z < 256
def Rd (w : World) (B : Nat) (A : Option Addr) (zs : List Int) : Prop :=
  0 < zs.length → ∃ b o, A = some ⟨b, o, none⟩ ∧ b < B ∧ ∀ k, k < zs.length → w.cell? ⟨b, o + k, none⟩ = some (.int .u8 (zs.getD k 0))
def Own (w : World) (base : Nat) (A : Option Addr) (n c : Nat) (zs : List Int) : Prop := w.ownsRow base 5 1 (.slice A n c) n (bv zs)

theorem Rng.at_ {zs : List Int} (h : Rng zs) (k : Nat) : 0 ≤ zs.getD k 0 ∧ zs.getD k 0 < 256 := by
  rcases Nat.lt_or_ge k zs.length with hk | hk
  · have e : zs.getD k 0 = zs[k] := by simp [List.getD, hk]
    rw [e]; exact h _ (List.getElem_mem hk)
  · have e : zs.getD k 0 = 0 := by simp [List.getD, List.getElem?_eq_none hk]
    rw [e]; omega

theorem Rd.below {w w' : World} {B B' : Nat} {A : Option Addr} {zs : List Int} (h : Rd w B A zs) (hB : B ≤ B') (hb : Below B' w w') : Rd w' B A zs := by
  intro hn
  obtain ⟨b, o, e, hlt, hc⟩ := h hn
  exact ⟨b, o, e, hlt, fun k hk => (hb.cell (p := ⟨b, o + k, none⟩) (Nat.lt_of_lt_of_le hlt hB)).trans (hc k hk)⟩
theorem Rd.more {w : World} {B B' : Nat} {A : Option Addr} {zs : List Int} (h : Rd w B A zs) (hB : B ≤ B') : Rd w B' A zs := by
  intro hn
  obtain ⟨b, o, e, hlt, hc⟩ := h hn
  exact ⟨b, o, e, Nat.lt_of_lt_of_le hlt hB, hc⟩
theorem Rd.at_ {w : World} {B : Nat} {A : Option Addr} {zs : List Int} (h : Rd w B A zs) {k : Nat} (hk : k < zs.length) :
    ∃ b o, A = some ⟨b, o, none⟩ ∧ b < B ∧ w.cell? ⟨b, o + k, none⟩ = some (.int .u8 (zs.getD k 0)) := by
  obtain ⟨b, o, e, hlt, hc⟩ := h (by omega)
  exact ⟨b, o, e, hlt, hc k hk⟩

theorem Own.len {w : World} {base : Nat} {A : Option Addr} {n c : Nat} {zs : List Int} (h : Own w base A n c zs) : zs.length = n := by
  have := h.1; simpa [bv] using this
theorem Own.rd {w : World} {base : Nat} {A : Option Addr} {n c : Nat} {zs : List Int} (h : Own w base A n c zs) : Rd w w.heap.size A zs := by
  intro hn
  have hl := h.len
  rcases h.2 with ⟨_, hz⟩ | ⟨g, cap, cur, hv, hb, hg, hnc, hm, hs, ht⟩
  · omega
  · injection hv with e1 e2 e3
    subst e1 e3
    have hlt : g < w.heap.size := (Array.getElem?_eq_some_iff.1 hg).1
    refine ⟨g, 0, rfl, hlt, fun k hk => ?_⟩
    rw [Nat.zero_add, World.ownsRow.cellAt (h := h) k (by omega)]
    simp [bv, hk]
theorem Own.head {w : World} {base : Nat} {A : Option Addr} {n c : Nat} {zs : List Int} (h : Own w base A n c zs) (hn : 0 < n) : ∃ g, A = some ⟨g, 0, none⟩ ∧ base ≤ g ∧ g < w.heap.size := by
  rcases h.2 with ⟨_, hz⟩ | ⟨g, cap, cur, hv, hb, hg, _⟩
  · omega
  · injection hv with e1 e2 e3
    exact ⟨g, e1, hb, (Array.getElem?_eq_some_iff.1 hg).1⟩
theorem Own.spot {w : World} {base g n c : Nat} {zs : List Int} (h : Own w base (some ⟨g, 0, none⟩) n c zs) {k : Nat} (hk : k < n) :
    w.cell? ⟨g, k, none⟩ = some (.int .u8 (zs.getD k 0)) ∧ w.frozen? ⟨g, k, none⟩ = false := by
  refine ⟨?_, World.ownsRow.frozenAt (h := h) k⟩
  have hl := h.len
  rw [World.ownsRow.cellAt (h := h) k (by omega)]
  simp [bv, show k < zs.length by omega]
theorem Own.stored {w : World} {base g n c : Nat} {zs : List Int} (h : Own w base (some ⟨g, 0, none⟩) n c zs) (k : Nat) (z : Int) :
    Own (w.setCell ⟨g, k, none⟩ (.int .u8 z)) base (some ⟨g, 0, none⟩) n c (zs.set k z) ∧ w.grownBy (w.setCell ⟨g, k, none⟩ (.int .u8 z)) (some g) := by
  have hs := World.ownsRow.stored (h := h) k (.int .u8 z)
  refine ⟨?_, hs.2⟩
  have e : bv (zs.set k z) = (bv zs).set k (.int .u8 z) := by simp [bv]
  unfold Own; rw [e]; exact hs.1
theorem Own.below {w w' : World} {base B : Nat} {A : Option Addr} {n c : Nat} {zs : List Int} (h : Own w base A n c zs) (hB : w.heap.size ≤ B) (hb : Below B w w') : Own w' base A n c zs := by
  refine ⟨h.1, ?_⟩
  rcases h.2 with h0 | ⟨g, cap, cur, hv, hbb, hg, rest⟩
  · exact .inl h0
  · have hlt : g < w.heap.size := (Array.getElem?_eq_some_iff.1 hg).1
    exact .inr ⟨g, cap, cur, hv, hbb, by rw [hb.block g (by omega)]; exact hg, rest⟩
theorem Own.more {w : World} {base base' : Nat} {A : Option Addr} {n c : Nat} {zs : List Int} (h : Own w base A n c zs) (hB : base' ≤ base) : Own w base' A n c zs := by
  refine ⟨h.1, ?_⟩
  rcases h.2 with h0 | ⟨g, cap, cur, hv, hbb, rest⟩
  · exact .inl h0
  · exact .inr ⟨g, cap, cur, hv, by omega, rest⟩
/-- what is owned from 'base' on lies apart from what is owned below it -/
theorem Own.apart {w w' : World} {base : Nat} {A A' : Option Addr} {n c n' c' : Nat} {zs : List Int} (h : Own w base A n c zs)
    (hlt : ∀ g, (Value.slice A' n' c').ownBlock = some g → g < base) (hg : w.grownBy w' (Value.slice A' n' c').ownBlock) : Own w' base A n c zs := by
  refine World.ownsRow.kept h hg ?_
  rcases hv : (Value.slice A n c).ownBlock with _ | g
  · exact .inl rfl
  · refine .inr ?_
    intro e
    have := (World.ownsRow.lt h g hv).1
    have := hlt g e.symm
    omega

theorem grown_trans {a b d : World} {row : Option Nat} (h : a.grownBy b row) (k : b.grownBy d row) : a.grownBy d row :=
  ⟨k.os.trans h.os, k.tape.trans h.tape, k.output.trans h.output, Nat.le_trans h.size k.size, fun i hi hne => (k.block i (Nat.lt_of_lt_of_le hi h.size) hne).trans (h.block i hi hne)⟩
theorem ret_int {k : IntKind} {a b : Int} (h : a = b) : Ending.returned (.int k a) = .returned (.int k b) := by rw [h]
theorem ret_bool {a b : Bool} (h : a = b) : Ending.returned (.bool a) = .returned (.bool b) := by rw [h]
theorem Tryinfo : (Try.prog.info? 5).map (fun i => (i.zero, i.size, i.bytes)) = some (some (.int .u8 0), 1, 1) := by kernel_rfl

/-! ### what a frame says of a slice that came in -/
def IsRow (k : IntKind) (w : World) (a : Option Addr) (len cap : Nat) (zs : List Int) : Prop :=
  (a = none ∧ len = 0 ∧ cap = 0 ∧ zs = []) ∨
  ∃ x, a = some x ∧ len ≤ cap ∧ cap ≤ maxLen ∧ zs.length = cap ∧ (∀ i, i < zs.length → w.cell? (x.add i) = some (.int k (zs.getD i 0))) ∧ ∀ n ∈ zs, (Lit.int k n).wf = true
theorem wf_rng {z : Int} (h : (Lit.int .u8 z).wf = true) : 0 ≤ z ∧ z < 256 := by
  simp [Lit.wf, IntKind.min, IntKind.max, IntKind.bits, IntKind.signed] at h
  omega
theorem IsRow.open_ {w : World} {a : Option Addr} {len cap : Nat} {zs : List Int} (h : IsRow .u8 w a len cap zs) :
    Rd w w.heap.size a (zs.take len) ∧ (zs.take len).length = len ∧ (a = none → len = 0 ∧ cap = 0) ∧ Rng (zs.take len) := by
  rcases h with ⟨rfl, rfl, rfl, rfl⟩ | ⟨x, rfl, h1, h2, h3, h4, h5⟩
  · exact ⟨fun h => absurd h (by simp), rfl, fun _ => ⟨rfl, rfl⟩, fun z hz => by simp at hz⟩
  · refine ⟨fun hn => ?_, by simp; omega, fun h => by simp at h, fun z hz => wf_rng (h5 z (List.mem_of_mem_take hz))⟩
    have hlen : 0 < zs.length := by simp at hn; omega
    obtain ⟨b, o, spot⟩ := x
    have hc := h4 0 hlen
    have hspot : spot = none := by simpa [Addr.add] using World.cell?_spot hc
    subst hspot
    refine ⟨b, o, rfl, by simpa [Addr.add] using World.block_lt_of_cell? w _ hc, fun k hk => ?_⟩
    have hk' : k < len ∧ k < zs.length := by simp at hk; omega
    have := h4 k hk'.2
    rw [Addr.add_lit] at this
    rw [this]
    simp [List.getD, hk'.1]

theorem Own.keep {w w' : World} {base : Nat} {A : Option Addr} {n c : Nat} {zs : List Int} {row : Option Nat} (h : Own w base A n c zs) (hg : w.grownBy w' row)
    (hne : ∀ g, (Value.slice A n c).ownBlock = some g → row ≠ some g) : Own w' base A n c zs := by
  refine World.ownsRow.kept h hg ?_
  rcases hv : (Value.slice A n c).ownBlock with _ | g
  · exact .inl rfl
  · exact .inr fun e => hne g hv e.symm
theorem Own.blk {w : World} {base : Nat} {A : Option Addr} {n c : Nat} {zs : List Int} (h : Own w base A n c zs) : ∀ g, (Value.slice A n c).ownBlock = some g → base ≤ g ∧ g < w.heap.size := World.ownsRow.lt h
/-- of two slices of the call's own the elder lies below the younger's base -/
theorem Own.ne_ {w w' : World} {base base' : Nat} {A A' : Option Addr} {n c n' c' : Nat} {zs zs' : List Int} (h : Own w base A n c zs) (h' : Own w' base' A' n' c' zs') (hlt : w.heap.size ≤ base') :
    ∀ g, (Value.slice A n c).ownBlock = some g → (Value.slice A' n' c').ownBlock ≠ some g := by
  intro g hg hg'
  have h1 := h.blk g hg
  have h2 := h'.blk g hg'
  omega
theorem Own.cap {w : World} {base : Nat} {A : Option Addr} {n c : Nat} {zs : List Int} (h : Own w base A n c zs) : n ≤ c := by
  rcases h.2 with ⟨hv, h0⟩ | ⟨g, cap, cur, hv, _, _, hnc, _⟩
  · omega
  · injection hv with e1 e2 e3
    omega
theorem wf_i64 {z : Int} (h : (Lit.int .i64 z).wf = true) : -9223372036854775808 ≤ z ∧ z ≤ 9223372036854775807 := by
  simp [Lit.wf, IntKind.min, IntKind.max, IntKind.bits, IntKind.signed] at h
  omega
end Go.Proofs.Ytmjainacnhobnaa.Bytes
