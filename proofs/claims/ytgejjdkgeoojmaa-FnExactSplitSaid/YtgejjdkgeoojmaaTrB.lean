/- Rows of nodes and of rectangles in memory. -/
import Derived.Test.YtgejjdkgeoojmaaKiA
import Derived.Test.YtgejjdkgeoojmaaTrM
namespace Go.Proofs.Ytgejjdkgeoojmaa.Tr
open Go.RowKit Go.Proofs.Ytgejjdkgeoojmaa.Bytes Go.Proofs.Ytgejjdkgeoojmaa.Rows_ Go.Proofs.Ytgejjdkgeoojmaa.RowK
set_option linter.unusedVariables false
def nodeR (x : NodeD) : List Value := [.int .i64 x.pane, .bool x.down, .int .i64 x.first]
def RdN (w : World) (B : Nat) (A : Option Addr) (cs : List NodeD) : Prop := RdK 3 w B A (cs.map nodeR)
def OwnN (w : World) (base : Nat) (A : Option Addr) (n c : Nat) (cs : List NodeD) : Prop := w.ownsRow base 90 3 (.slice A n c) n (cs.map nodeR).flatten
section
variable {w w' : World} {B B' : Nat} {A : Option Addr}
theorem RdN.below {ks : List NodeD} (h : RdN w B A ks) (hB : B ≤ B') (hb : Below B' w w') : RdN w' B A ks := RdK.below h hB hb
theorem RdN.more {ks : List NodeD} (h : RdN w B A ks) (hB : B ≤ B') : RdN w B' A ks := RdK.more h hB
theorem RdN.at_ {ks : List NodeD} (h : RdN w B A ks) {i : Nat} (hi : i < ks.length) :
    ∃ b o, A = some ⟨b, o, none⟩ ∧ b < B ∧ w.cell? ⟨b, o + i * 3, none⟩ = some (.int .i64 ks[i].pane) ∧ w.cell? ⟨b, o + i * 3 + 1, none⟩ = some (.bool ks[i].down) ∧ w.cell? ⟨b, o + i * 3 + 2, none⟩ = some (.int .i64 ks[i].first) := by
  obtain ⟨b, o, e, hlt, hc⟩ := RdK.at_ h (i := i) (r := nodeR ks[i]) (by simp [hi])
  exact ⟨b, o, e, hlt, hc 0 _ rfl, hc 1 _ rfl, hc 2 _ rfl⟩
end
theorem lenN : ∀ (ks : List NodeD), ∀ r ∈ ks.map nodeR, r.length = 3 := by
  intro ks r hr; simp at hr; obtain ⟨_, _, rfl⟩ := hr; rfl
theorem infoN : (Try.prog.info? 90).map (fun i => (i.zero, i.size, i.bytes)) = some (some (.agg #[.int .i64 0, .bool false, .int .i64 0]), 3, 24) := by kernel_rfl
def zN : List Value := [.int .i64 0, .bool false, .int .i64 0]
def partN (cs : List NodeD) (n k : Nat) : List Value := ((cs.take k).map nodeR ++ List.replicate (n - k) zN).flatten
theorem OwnN.rd {w : World} {base : Nat} {A : Option Addr} {n c : Nat} {cs : List NodeD} (h : OwnN w base A n c cs) : RdN w w.heap.size A cs := own_rdK (lenN cs) (by omega) h
theorem OwnN.len {w : World} {base : Nat} {A : Option Addr} {n c : Nat} {cs : List NodeD} (h : OwnN w base A n c cs) : cs.length = n := by
  have := h.1; rw [flat_len 3 _ (lenN cs)] at this; simp at this; omega
theorem OwnN.below {w' : World} {B : Nat} {w : World} {base : Nat} {A : Option Addr} {n c : Nat} {cs : List NodeD} (h : OwnN w base A n c cs) (hB : w.heap.size ≤ B) (hb : Below B w w') : OwnN w' base A n c cs := own_belowK h hB hb
theorem OwnN.more {base' : Nat} {w : World} {base : Nat} {A : Option Addr} {n c : Nat} {cs : List NodeD} (h : OwnN w base A n c cs) (hB : base' ≤ base) : OwnN w base' A n c cs := own_moreK h hB
theorem OwnN.blk {w : World} {base : Nat} {A : Option Addr} {n c : Nat} {cs : List NodeD} (h : OwnN w base A n c cs) : ∀ g, (Value.slice A n c).ownBlock = some g → base ≤ g ∧ g < w.heap.size := World.ownsRow.lt h
theorem OwnN.only {w' : World} {S : Nat → Prop} {w : World} {base : Nat} {A : Option Addr} {n c : Nat} {cs : List NodeD} (h : OwnN w base A n c cs) (on : Only S w w') (hd : ∀ i, (Value.slice A n c).ownBlock = some i → ¬ S i) : OwnN w' base A n c cs := Only.own h on hd
theorem OwnN.cap {w : World} {base : Nat} {A : Option Addr} {n c : Nat} {cs : List NodeD} (h : OwnN w base A n c cs) : n ≤ c := by
  rcases h.2 with ⟨hv, h0⟩ | ⟨g, cap, cur, hv, _, _, hnc, _⟩
  · omega
  · injection hv with e1 e2 e3
    omega
theorem OwnN.none_ {w : World} {base : Nat} {A : Option Addr} {n c : Nat} {cs : List NodeD} (h : OwnN w base A n c cs) : A = none → n = 0 ∧ c = 0 := own_noneK h
theorem rowN {w : World} {base g n c : Nat} {E : TypeId} {pre post : List (List Value)} {z0 z1 z2 : Value} (v0 v1 v2 : Value) (hpre : ∀ r ∈ pre, r.length = 3) (k : Nat) (hk : pre.length = k) (h : w.ownsRow base E 3 (.slice (some ⟨g, 0, none⟩) n c) n (pre ++ [[z0, z1, z2]] ++ post).flatten) :
    (((w.setCell ⟨g, k * 3, none⟩ v0).setCell ⟨g, k * 3 + 1, none⟩ v1).setCell ⟨g, k * 3 + 2, none⟩ v2).ownsRow base E 3 (.slice (some ⟨g, 0, none⟩) n c) n (pre ++ [[v0, v1, v2]] ++ post).flatten := by
  have h0 := rowJ (K := 3) rfl hpre k hk 0 (by omega) v0 h
  have h1 := rowJ (K := 3) rfl hpre k hk 1 (by omega) v1 h0
  exact rowJ (K := 3) rfl hpre k hk 2 (by omega) v2 h1
def rectR (x : RectD) : List Value := [.int .i64 x.pane, .int .i64 x.x, .int .i64 x.y, .int .i64 x.w, .int .i64 x.h]
def RdR (w : World) (B : Nat) (A : Option Addr) (cs : List RectD) : Prop := RdK 5 w B A (cs.map rectR)
def OwnR (w : World) (base : Nat) (A : Option Addr) (n c : Nat) (cs : List RectD) : Prop := w.ownsRow base 65 5 (.slice A n c) n (cs.map rectR).flatten
section
variable {w w' : World} {B B' : Nat} {A : Option Addr}
theorem RdR.below {ks : List RectD} (h : RdR w B A ks) (hB : B ≤ B') (hb : Below B' w w') : RdR w' B A ks := RdK.below h hB hb
theorem RdR.more {ks : List RectD} (h : RdR w B A ks) (hB : B ≤ B') : RdR w B' A ks := RdK.more h hB
theorem RdR.at_ {ks : List RectD} (h : RdR w B A ks) {i : Nat} (hi : i < ks.length) :
    ∃ b o, A = some ⟨b, o, none⟩ ∧ b < B ∧ w.cell? ⟨b, o + i * 5, none⟩ = some (.int .i64 ks[i].pane) ∧ w.cell? ⟨b, o + i * 5 + 1, none⟩ = some (.int .i64 ks[i].x) ∧ w.cell? ⟨b, o + i * 5 + 2, none⟩ = some (.int .i64 ks[i].y) ∧ w.cell? ⟨b, o + i * 5 + 3, none⟩ = some (.int .i64 ks[i].w) ∧ w.cell? ⟨b, o + i * 5 + 4, none⟩ = some (.int .i64 ks[i].h) := by
  obtain ⟨b, o, e, hlt, hc⟩ := RdK.at_ h (i := i) (r := rectR ks[i]) (by simp [hi])
  exact ⟨b, o, e, hlt, hc 0 _ rfl, hc 1 _ rfl, hc 2 _ rfl, hc 3 _ rfl, hc 4 _ rfl⟩
end
theorem lenR : ∀ (ks : List RectD), ∀ r ∈ ks.map rectR, r.length = 5 := by
  intro ks r hr; simp at hr; obtain ⟨_, _, rfl⟩ := hr; rfl
theorem infoR : (Try.prog.info? 65).map (fun i => (i.zero, i.size, i.bytes)) = some (some (.agg #[.int .i64 0, .int .i64 0, .int .i64 0, .int .i64 0, .int .i64 0]), 5, 40) := by kernel_rfl
theorem OwnR.rd {w : World} {base : Nat} {A : Option Addr} {n c : Nat} {cs : List RectD} (h : OwnR w base A n c cs) : RdR w w.heap.size A cs := own_rdK (lenR cs) (by omega) h
theorem OwnR.len {w : World} {base : Nat} {A : Option Addr} {n c : Nat} {cs : List RectD} (h : OwnR w base A n c cs) : cs.length = n := by
  have := h.1; rw [flat_len 5 _ (lenR cs)] at this; simp at this; omega
theorem OwnR.below {w' : World} {B : Nat} {w : World} {base : Nat} {A : Option Addr} {n c : Nat} {cs : List RectD} (h : OwnR w base A n c cs) (hB : w.heap.size ≤ B) (hb : Below B w w') : OwnR w' base A n c cs := own_belowK h hB hb
theorem OwnR.more {base' : Nat} {w : World} {base : Nat} {A : Option Addr} {n c : Nat} {cs : List RectD} (h : OwnR w base A n c cs) (hB : base' ≤ base) : OwnR w base' A n c cs := own_moreK h hB
theorem OwnR.blk {w : World} {base : Nat} {A : Option Addr} {n c : Nat} {cs : List RectD} (h : OwnR w base A n c cs) : ∀ g, (Value.slice A n c).ownBlock = some g → base ≤ g ∧ g < w.heap.size := World.ownsRow.lt h
theorem OwnR.only {w' : World} {S : Nat → Prop} {w : World} {base : Nat} {A : Option Addr} {n c : Nat} {cs : List RectD} (h : OwnR w base A n c cs) (on : Only S w w') (hd : ∀ i, (Value.slice A n c).ownBlock = some i → ¬ S i) : OwnR w' base A n c cs := Only.own h on hd
theorem OwnR.cap {w : World} {base : Nat} {A : Option Addr} {n c : Nat} {cs : List RectD} (h : OwnR w base A n c cs) : n ≤ c := by
  rcases h.2 with ⟨hv, h0⟩ | ⟨g, cap, cur, hv, _, _, hnc, _⟩
  · omega
  · injection hv with e1 e2 e3
    omega
theorem OwnR.none_ {w : World} {base : Nat} {A : Option Addr} {n c : Nat} {cs : List RectD} (h : OwnR w base A n c cs) : A = none → n = 0 ∧ c = 0 := own_noneK h
theorem rowR {w : World} {base g n c : Nat} {E : TypeId} {pre post : List (List Value)} {z0 z1 z2 z3 z4 : Value} (v0 v1 v2 v3 v4 : Value) (hpre : ∀ r ∈ pre, r.length = 5) (k : Nat) (hk : pre.length = k) (h : w.ownsRow base E 5 (.slice (some ⟨g, 0, none⟩) n c) n (pre ++ [[z0, z1, z2, z3, z4]] ++ post).flatten) :
    (((((w.setCell ⟨g, k * 5, none⟩ v0).setCell ⟨g, k * 5 + 1, none⟩ v1).setCell ⟨g, k * 5 + 2, none⟩ v2).setCell ⟨g, k * 5 + 3, none⟩ v3).setCell ⟨g, k * 5 + 4, none⟩ v4).ownsRow base E 5 (.slice (some ⟨g, 0, none⟩) n c) n (pre ++ [[v0, v1, v2, v3, v4]] ++ post).flatten := by
  have h0 := rowJ (K := 5) rfl hpre k hk 0 (by omega) v0 h
  have h1 := rowJ (K := 5) rfl hpre k hk 1 (by omega) v1 h0
  have h2 := rowJ (K := 5) rfl hpre k hk 2 (by omega) v2 h1
  have h3 := rowJ (K := 5) rfl hpre k hk 3 (by omega) v3 h2
  exact rowJ (K := 5) rfl hpre k hk 4 (by omega) v4 h3
end Go.Proofs.Ytgejjdkgeoojmaa.Tr

