/- Words for slices of structs: what reads as a list of rows of k cells; links, files and turns of a disk as plain data. No function of the program is named. -/
import Derived.Test.YtmjainacnhobnaaBase
import Derived.WalkKit
import Derived.WalkSmall
import Derived.WalkLawsBesides
import Derived.Lib.Hide
namespace Go.Proofs.Ytmjainacnhobnaa.Rows_
open Go.RowKit Go.Proofs.Ytmjainacnhobnaa.Bytes
set_option linter.unusedVariables false

def RdK (k : Nat) (w : World) (B : Nat) (A : Option Addr) (rows : List (List Value)) : Prop :=
  0 < rows.length → ∃ b o, A = some ⟨b, o, none⟩ ∧ b < B ∧ ∀ i r, rows[i]? = some r → ∀ j v, r[j]? = some v → w.cell? ⟨b, o + i * k + j, none⟩ = some v
section
variable {k : Nat} {w w' : World} {B B' : Nat} {A : Option Addr} {rows : List (List Value)}
theorem RdK.below (h : RdK k w B A rows) (hB : B ≤ B') (hb : Below B' w w') : RdK k w' B A rows := by
  intro hn
  obtain ⟨b, o, e, hlt, hc⟩ := h hn
  exact ⟨b, o, e, hlt, fun i r hr j v hv => (hb.cell (p := ⟨b, o + i * k + j, none⟩) (Nat.lt_of_lt_of_le hlt hB)).trans (hc i r hr j v hv)⟩
theorem RdK.more (h : RdK k w B A rows) (hB : B ≤ B') : RdK k w B' A rows := by
  intro hn
  obtain ⟨b, o, e, hlt, hc⟩ := h hn
  exact ⟨b, o, e, Nat.lt_of_lt_of_le hlt hB, hc⟩
theorem RdK.at_ (h : RdK k w B A rows) {i : Nat} {r : List Value} (hr : rows[i]? = some r) :
    ∃ b o, A = some ⟨b, o, none⟩ ∧ b < B ∧ ∀ j v, r[j]? = some v → w.cell? ⟨b, o + i * k + j, none⟩ = some v := by
  have hi : i < rows.length := (List.getElem?_eq_some_iff.1 hr).1
  obtain ⟨b, o, e, hlt, hc⟩ := h (by omega)
  exact ⟨b, o, e, hlt, hc i r hr⟩
end

/-! ### a disk's parts as data -/
abbrev LinkD := ByteArray × Int
structure TurnD where
  kind : Int
  name : ByteArray
  to_ : ByteArray
  id : Int
structure FileD where
  id : Int
  A : Option Addr
  n : Nat
  c : Nat
  safe : Int
  bytes : List Int
instance : Inhabited TurnD := ⟨⟨0, ByteArray.empty, ByteArray.empty, 0⟩⟩
instance : Inhabited FileD := ⟨⟨0, none, 0, 0, 0, []⟩⟩
def linkR (x : LinkD) : List Value := [.string x.1, .int .i64 x.2]
def turnR (x : TurnD) : List Value := [.int .i64 x.kind, .string x.name, .string x.to_, .int .i64 x.id]
def fileR (x : FileD) : List Value := [.int .i64 x.id, .slice x.A x.n x.c, .int .i64 x.safe]
def RdL (w : World) (B : Nat) (A : Option Addr) (ks : List LinkD) : Prop := RdK 2 w B A (ks.map linkR)
def RdT (w : World) (B : Nat) (A : Option Addr) (ts : List TurnD) : Prop := RdK 4 w B A (ts.map turnR)
def RdF (w : World) (B : Nat) (A : Option Addr) (fs : List FileD) : Prop := RdK 3 w B A (fs.map fileR)
section
variable {w w' : World} {B B' : Nat} {A : Option Addr}
theorem RdL.below {ks : List LinkD} (h : RdL w B A ks) (hB : B ≤ B') (hb : Below B' w w') : RdL w' B A ks := RdK.below h hB hb
theorem RdT.below {ks : List TurnD} (h : RdT w B A ks) (hB : B ≤ B') (hb : Below B' w w') : RdT w' B A ks := RdK.below h hB hb
theorem RdF.below {ks : List FileD} (h : RdF w B A ks) (hB : B ≤ B') (hb : Below B' w w') : RdF w' B A ks := RdK.below h hB hb
theorem RdL.more {ks : List LinkD} (h : RdL w B A ks) (hB : B ≤ B') : RdL w B' A ks := RdK.more h hB
theorem RdT.more {ks : List TurnD} (h : RdT w B A ks) (hB : B ≤ B') : RdT w B' A ks := RdK.more h hB
theorem RdF.more {ks : List FileD} (h : RdF w B A ks) (hB : B ≤ B') : RdF w B' A ks := RdK.more h hB
theorem RdL.at_ {ks : List LinkD} (h : RdL w B A ks) {i : Nat} (hi : i < ks.length) :
    ∃ b o, A = some ⟨b, o, none⟩ ∧ b < B ∧ w.cell? ⟨b, o + i * 2, none⟩ = some (.string ks[i].1) ∧ w.cell? ⟨b, o + i * 2 + 1, none⟩ = some (.int .i64 ks[i].2) := by
  obtain ⟨b, o, e, hlt, hc⟩ := RdK.at_ h (i := i) (r := linkR ks[i]) (by simp [hi])
  exact ⟨b, o, e, hlt, hc 0 _ rfl, hc 1 _ rfl⟩
theorem RdT.at_ {ks : List TurnD} (h : RdT w B A ks) {i : Nat} (hi : i < ks.length) :
    ∃ b o, A = some ⟨b, o, none⟩ ∧ b < B ∧ w.cell? ⟨b, o + i * 4, none⟩ = some (.int .i64 ks[i].kind) ∧ w.cell? ⟨b, o + i * 4 + 1, none⟩ = some (.string ks[i].name) ∧ w.cell? ⟨b, o + i * 4 + 2, none⟩ = some (.string ks[i].to_) ∧ w.cell? ⟨b, o + i * 4 + 3, none⟩ = some (.int .i64 ks[i].id) := by
  obtain ⟨b, o, e, hlt, hc⟩ := RdK.at_ h (i := i) (r := turnR ks[i]) (by simp [hi])
  exact ⟨b, o, e, hlt, hc 0 _ rfl, hc 1 _ rfl, hc 2 _ rfl, hc 3 _ rfl⟩
theorem RdF.at_ {ks : List FileD} (h : RdF w B A ks) {i : Nat} (hi : i < ks.length) :
    ∃ b o, A = some ⟨b, o, none⟩ ∧ b < B ∧ w.cell? ⟨b, o + i * 3, none⟩ = some (.int .i64 ks[i].id) ∧ w.cell? ⟨b, o + i * 3 + 1, none⟩ = some (.slice ks[i].A ks[i].n ks[i].c) ∧ w.cell? ⟨b, o + i * 3 + 2, none⟩ = some (.int .i64 ks[i].safe) := by
  obtain ⟨b, o, e, hlt, hc⟩ := RdK.at_ h (i := i) (r := fileR ks[i]) (by simp [hi])
  exact ⟨b, o, e, hlt, hc 0 _ rfl, hc 1 _ rfl, hc 2 _ rfl⟩
end
theorem bcell {W w1 : World} {B : Nat} (hb : Below B W w1) : (∀ b o, b < B → w1.cell? ⟨b, o, none⟩ = W.cell? ⟨b, o, none⟩) ∧ (∀ b o, b < B → w1.frozen? ⟨b, o, none⟩ = W.frozen? ⟨b, o, none⟩) :=
  ⟨fun b o h => hb.cell (p := ⟨b, o, none⟩) h, fun b o h => hb.frozen (p := ⟨b, o, none⟩) h⟩
theorem undrew {W v : World} {B : Nat} (h : Below B W.drew v) : Below B W v := ⟨h.os, h.tape, h.output, h.size, h.block⟩
end Go.Proofs.Ytmjainacnhobnaa.Rows_
