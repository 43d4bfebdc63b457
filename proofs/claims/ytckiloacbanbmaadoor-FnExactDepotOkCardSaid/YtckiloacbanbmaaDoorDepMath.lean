/- When a depot is good, as data: what both sides answer. -/
import Derived.Test.YtckiloacbanbmaaDoorReadImpl
import Derived.Test.YtckiloacbanbmaaDoorReadSpec2
import Derived.Test.YtckiloacbanbmaaDoorGenLog
namespace Go.Proofs.YtckiloacbanbmaaDoor.DOk
open Go.RowKit Go.Proofs.YtckiloacbanbmaaDoor.Bytes Go.Proofs.YtckiloacbanbmaaDoor.Rows_
open Go.Proofs.YtckiloacbanbmaaDoor.Num (nm logP nt_len)
set_option linter.unusedVariables false

/-- ten cells of a block -/
def Box10 (w : World) (b : Nat) (x0 x1 x2 x3 x4 x5 x6 x7 x8 x9 : Value) : Prop := Box6 w b x0 x1 x2 x3 x4 x5 ∧ w.cell? ⟨b, 6, none⟩ = some x6 ∧ w.cell? ⟨b, 7, none⟩ = some x7 ∧ w.cell? ⟨b, 8, none⟩ = some x8 ∧ w.cell? ⟨b, 9, none⟩ = some x9
theorem Box10.below {w w' : World} {B b : Nat} {x0 x1 x2 x3 x4 x5 x6 x7 x8 x9 : Value} (h : Box10 w b x0 x1 x2 x3 x4 x5 x6 x7 x8 x9) (hb : Below B w w') (hlt : b < B) : Box10 w' b x0 x1 x2 x3 x4 x5 x6 x7 x8 x9 :=
  ⟨h.1.below hb hlt, (hb.cell (p := ⟨b, 6, none⟩) hlt).trans h.2.1, (hb.cell (p := ⟨b, 7, none⟩) hlt).trans h.2.2.1, (hb.cell (p := ⟨b, 8, none⟩) hlt).trans h.2.2.2.1, (hb.cell (p := ⟨b, 9, none⟩) hlt).trans h.2.2.2.2⟩
theorem Box10.new (w : World) (x0 x1 x2 x3 x4 x5 x6 x7 x8 x9 : Value) (t : TypeId) : Box10 (w.alloc (.cells #[x0, x1, x2, x3, x4, x5, x6, x7, x8, x9] t)) w.heap.size x0 x1 x2 x3 x4 x5 x6 x7 x8 x9 := by
  refine ⟨⟨?_, ?_, ?_, ?_, ?_, ?_⟩, ?_, ?_, ?_, ?_⟩ <;> (rw [World.cell?_alloc_at _ _ _ _ rfl]; rfl)


theorem nm_size (g : Int) : (nm logP g).size ≤ maxLen := by
  have h := nt_len g
  unfold nm
  split
  · rw [ByteArray.size_append]
    have : logP.size = 4 := rfl
    unfold maxLen; omega
  · unfold maxLen; exact Nat.zero_le _
/-- the journal is there and of that length -/
def JourP (P : Prop) (fs : List FileD) (l : List LinkD) (gen size : Int) : Prop := ∃ zs, ReadD P fs l (nm logP gen).toList zs true ∧ ((zs.length : Nat) : Int) = size
def DepP (P : Prop) (fs : List FileD) (l : List LinkD) (fuse gen seq size : Int) (stuck : Bool) : Prop :=
  P ∧ (1 ≤ gen ∧ gen ≤ 1000000000) ∧ (1 ≤ seq ∧ seq ≤ 1000000001) ∧ 0 ≤ size ∧ (fuse = 0 ∨ stuck = true ∨ JourP P fs l gen size)
theorem jour_yes {P : Prop} {fs : List FileD} {l : List LinkD} {gen size : Int} {zs : List Int} (h : ReadD P fs l (nm logP gen).toList zs true) : JourP P fs l gen size ↔ ((zs.length : Nat) : Int) = size := by
  constructor
  · rintro ⟨ys, hy, e⟩
    rw [← (ReadD.same Iff.rfl rfl h hy).1]; exact e
  · exact fun e => ⟨zs, h, e⟩
theorem jour_no {P : Prop} {fs : List FileD} {l : List LinkD} {gen size : Int} {zs : List Int} (h : ReadD P fs l (nm logP gen).toList zs false) : ¬ JourP P fs l gen size := by
  rintro ⟨ys, hy, e⟩
  have := (ReadD.same Iff.rfl rfl h hy).2
  cases this
theorem ReadD.congr {P Q : Prop} (hPQ : P ↔ Q) {fs gs : List FileD} (hk : gs.map keyF = fs.map keyF) {l : List LinkD} {s : List UInt8} {zs : List Int} {o : Bool} (h : ReadD P gs l s zs o) : ReadD Q fs l s zs o := by
  obtain ⟨hl, hs⟩ := same_of_keys hk
  rcases h with ⟨p, hn, ⟨i, hi, e1, e2, rfl⟩, rfl⟩ | ⟨p, rfl, rfl⟩
  · refine .inl ⟨hPQ.1 p, hn, ⟨i, by omega, ?_, fun j hj hlt => ?_, ?_⟩, rfl⟩
    · rw [← (hs i (by omega) hi).1]; exact e1
    · rw [← (hs j hj (by omega)).1]; exact e2 j (by omega) hlt
    · exact (hs i (by omega) hi).2.2.2
  · exact .inr ⟨fun h => p ⟨hPQ.2 h.1, h.2⟩, rfl, rfl⟩
theorem JourP.congr {P Q : Prop} (hPQ : P ↔ Q) {fs gs : List FileD} (hk : gs.map keyF = fs.map keyF) {l : List LinkD} {gen size : Int} : JourP P gs l gen size ↔ JourP Q fs l gen size :=
  ⟨fun ⟨zs, h, e⟩ => ⟨zs, ReadD.congr hPQ hk h, e⟩, fun ⟨zs, h, e⟩ => ⟨zs, ReadD.congr hPQ.symm hk.symm h, e⟩⟩
theorem DepP.congr {P Q : Prop} (hPQ : P ↔ Q) {fs gs : List FileD} (hk : gs.map keyF = fs.map keyF) {l : List LinkD} {fuse gen seq size : Int} {stuck : Bool} : DepP P gs l fuse gen seq size stuck ↔ DepP Q fs l fuse gen seq size stuck := by
  unfold DepP; rw [JourP.congr hPQ hk, hPQ]
end Go.Proofs.YtckiloacbanbmaaDoor.DOk
