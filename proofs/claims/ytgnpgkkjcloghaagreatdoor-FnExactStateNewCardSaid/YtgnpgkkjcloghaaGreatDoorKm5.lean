/- Texts that lay in modules of their own: TrB, TrTo. -/
import Derived.Test.YtgnpgkkjcloghaaGreatDoorKiA
import Derived.Test.YtgnpgkkjcloghaaGreatDoorTrM
import Derived.Deep.RegionWith
import Derived.Deep.DrawnRows
namespace Go.Proofs.YtgnpgkkjcloghaaGreatDoor.Tr
open Go.RowKit Go.Proofs.YtgnpgkkjcloghaaGreatDoor.Bytes Go.Proofs.YtgnpgkkjcloghaaGreatDoor.Rows_ Go.Proofs.YtgnpgkkjcloghaaGreatDoor.RowK
set_option linter.unusedVariables false
def nodeR (x : NodeD) : List Value := [.int .i64 x.pane, .bool x.down, .int .i64 x.first]
def RdN (w : World) (B : Nat) (A : Option Addr) (cs : List NodeD) : Prop := RdK 3 w B A (cs.map nodeR)
def OwnN (w : World) (base : Nat) (A : Option Addr) (n c : Nat) (cs : List NodeD) : Prop := w.ownsRow base 147 3 (.slice A n c) n (cs.map nodeR).flatten
section
variable {w w' : World} {B B' : Nat} {A : Option Addr}
theorem RdN.below {ks : List NodeD} (h : RdN w B A ks) (hB : B ≤ B') (hb : Below B' w w') : RdN w' B A ks := RdK.below h hB hb
theorem RdN.more {ks : List NodeD} (h : RdN w B A ks) (hB : B ≤ B') : RdN w B' A ks := RdK.more h hB
theorem RdN.at_ {ks : List NodeD} (h : RdN w B A ks) {i : Nat} (hi : i < ks.length) :
    ∃ b o, A = some ⟨b, o, none⟩ ∧ b < B ∧ w.cell? ⟨b, o + i * 3, none⟩ = some (.int .i64 ks[i].pane) ∧ w.cell? ⟨b, o + i * 3 + 1, none⟩ = some (.bool ks[i].down) ∧ w.cell? ⟨b, o + i * 3 + 2, none⟩ = some (.int .i64 ks[i].first) := by
  obtain ⟨b, o, e, hlt, hc⟩ := RdK.at_ h (i := i) (r := nodeR ks[i]) (by simp [hi])
  exact ⟨b, o, e, hlt, hc 0 _ rfl, hc 1 _ rfl, hc 2 _ rfl⟩
end
theorem lenN : ∀ (ks : List NodeD), ∀ r ∈ ks.map nodeR, r.length = 3 := by
  intro ks r hr; simp at hr; obtain ⟨_, _, rfl⟩ := hr; rfl
theorem OwnN.rd {w : World} {base : Nat} {A : Option Addr} {n c : Nat} {cs : List NodeD} (h : OwnN w base A n c cs) : RdN w w.heap.size A cs := own_rdK (lenN cs) (by omega) h
theorem OwnN.len {w : World} {base : Nat} {A : Option Addr} {n c : Nat} {cs : List NodeD} (h : OwnN w base A n c cs) : cs.length = n := by
  have := h.1; rw [flat_len 3 _ (lenN cs)] at this; simp at this; omega
theorem OwnN.below {w' : World} {B : Nat} {w : World} {base : Nat} {A : Option Addr} {n c : Nat} {cs : List NodeD} (h : OwnN w base A n c cs) (hB : w.heap.size ≤ B) (hb : Below B w w') : OwnN w' base A n c cs := own_belowK h hB hb
theorem OwnN.more {base' : Nat} {w : World} {base : Nat} {A : Option Addr} {n c : Nat} {cs : List NodeD} (h : OwnN w base A n c cs) (hB : base' ≤ base) : OwnN w base' A n c cs := own_moreK h hB
theorem OwnN.blk {w : World} {base : Nat} {A : Option Addr} {n c : Nat} {cs : List NodeD} (h : OwnN w base A n c cs) : ∀ g, (Value.slice A n c).ownBlock = some g → base ≤ g ∧ g < w.heap.size := World.ownsRow.lt h
theorem OwnN.only {w' : World} {S : Nat → Prop} {w : World} {base : Nat} {A : Option Addr} {n c : Nat} {cs : List NodeD} (h : OwnN w base A n c cs) (on : Only S w w') (hd : ∀ i, (Value.slice A n c).ownBlock = some i → ¬ S i) : OwnN w' base A n c cs := Only.own h on hd
theorem OwnN.cap {w : World} {base : Nat} {A : Option Addr} {n c : Nat} {cs : List NodeD} (h : OwnN w base A n c cs) : n ≤ c := by
  rcases h.2 with ⟨hv, h0⟩ | ⟨g, cap, cur, hv, _, _, hnc, _⟩
  · omega
  · injection hv with e1 e2 e3
    omega
def rectR (x : RectD) : List Value := [.int .i64 x.pane, .int .i64 x.x, .int .i64 x.y, .int .i64 x.w, .int .i64 x.h]
def RdR (w : World) (B : Nat) (A : Option Addr) (cs : List RectD) : Prop := RdK 5 w B A (cs.map rectR)
def OwnR (w : World) (base : Nat) (A : Option Addr) (n c : Nat) (cs : List RectD) : Prop := w.ownsRow base 120 5 (.slice A n c) n (cs.map rectR).flatten
section
variable {w w' : World} {B B' : Nat} {A : Option Addr}
theorem RdR.below {ks : List RectD} (h : RdR w B A ks) (hB : B ≤ B') (hb : Below B' w w') : RdR w' B A ks := RdK.below h hB hb
theorem RdR.more {ks : List RectD} (h : RdR w B A ks) (hB : B ≤ B') : RdR w B' A ks := RdK.more h hB
theorem RdR.at_ {ks : List RectD} (h : RdR w B A ks) {i : Nat} (hi : i < ks.length) :
    ∃ b o, A = some ⟨b, o, none⟩ ∧ b < B ∧ w.cell? ⟨b, o + i * 5, none⟩ = some (.int .i64 ks[i].pane) ∧ w.cell? ⟨b, o + i * 5 + 1, none⟩ = some (.int .i64 ks[i].x) ∧ w.cell? ⟨b, o + i * 5 + 2, none⟩ = some (.int .i64 ks[i].y) ∧ w.cell? ⟨b, o + i * 5 + 3, none⟩ = some (.int .i64 ks[i].w) ∧ w.cell? ⟨b, o + i * 5 + 4, none⟩ = some (.int .i64 ks[i].h) := by
  obtain ⟨b, o, e, hlt, hc⟩ := RdK.at_ h (i := i) (r := rectR ks[i]) (by simp [hi])
  exact ⟨b, o, e, hlt, hc 0 _ rfl, hc 1 _ rfl, hc 2 _ rfl, hc 3 _ rfl, hc 4 _ rfl⟩
end
theorem lenR : ∀ (ks : List RectD), ∀ r ∈ ks.map rectR, r.length = 5 := by
  intro ks r hr; simp at hr; obtain ⟨_, _, rfl⟩ := hr; rfl
theorem infoR : (Tryz.prog.info? 120).map (fun i => (i.zero, i.size, i.bytes)) = some (some (.agg #[.int .i64 0, .int .i64 0, .int .i64 0, .int .i64 0, .int .i64 0]), 5, 40) := by kernel_rfl
theorem OwnR.rd {w : World} {base : Nat} {A : Option Addr} {n c : Nat} {cs : List RectD} (h : OwnR w base A n c cs) : RdR w w.heap.size A cs := own_rdK (lenR cs) (by omega) h
theorem OwnR.len {w : World} {base : Nat} {A : Option Addr} {n c : Nat} {cs : List RectD} (h : OwnR w base A n c cs) : cs.length = n := by
  have := h.1; rw [flat_len 5 _ (lenR cs)] at this; simp at this; omega
theorem OwnR.below {w' : World} {B : Nat} {w : World} {base : Nat} {A : Option Addr} {n c : Nat} {cs : List RectD} (h : OwnR w base A n c cs) (hB : w.heap.size ≤ B) (hb : Below B w w') : OwnR w' base A n c cs := own_belowK h hB hb
theorem OwnR.more {base' : Nat} {w : World} {base : Nat} {A : Option Addr} {n c : Nat} {cs : List RectD} (h : OwnR w base A n c cs) (hB : base' ≤ base) : OwnR w base' A n c cs := own_moreK h hB
theorem OwnR.blk {w : World} {base : Nat} {A : Option Addr} {n c : Nat} {cs : List RectD} (h : OwnR w base A n c cs) : ∀ g, (Value.slice A n c).ownBlock = some g → base ≤ g ∧ g < w.heap.size := World.ownsRow.lt h
theorem OwnR.only {w' : World} {S : Nat → Prop} {w : World} {base : Nat} {A : Option Addr} {n c : Nat} {cs : List RectD} (h : OwnR w base A n c cs) (on : Only S w w') (hd : ∀ i, (Value.slice A n c).ownBlock = some i → ¬ S i) : OwnR w' base A n c cs := Only.own h on hd
theorem OwnR.cap {w : World} {base : Nat} {A : Option Addr} {n c : Nat} {cs : List RectD} (h : OwnR w base A n c cs) : n ≤ c := by
  rcases h.2 with ⟨hv, h0⟩ | ⟨g, cap, cur, hv, _, _, hnc, _⟩
  · omega
  · injection hv with e1 e2 e3
    omega
theorem rowR {w : World} {base g n c : Nat} {E : TypeId} {pre post : List (List Value)} {z0 z1 z2 z3 z4 : Value} (v0 v1 v2 v3 v4 : Value) (hpre : ∀ r ∈ pre, r.length = 5) (k : Nat) (hk : pre.length = k) (h : w.ownsRow base E 5 (.slice (some ⟨g, 0, none⟩) n c) n (pre ++ [[z0, z1, z2, z3, z4]] ++ post).flatten) :
    (((((w.setCell ⟨g, k * 5, none⟩ v0).setCell ⟨g, k * 5 + 1, none⟩ v1).setCell ⟨g, k * 5 + 2, none⟩ v2).setCell ⟨g, k * 5 + 3, none⟩ v3).setCell ⟨g, k * 5 + 4, none⟩ v4).ownsRow base E 5 (.slice (some ⟨g, 0, none⟩) n c) n (pre ++ [[v0, v1, v2, v3, v4]] ++ post).flatten := by
  have h0 := rowJ (K := 5) rfl hpre k hk 0 (by omega) v0 h
  have h1 := rowJ (K := 5) rfl hpre k hk 1 (by omega) v1 h0
  have h2 := rowJ (K := 5) rfl hpre k hk 2 (by omega) v2 h1
  have h3 := rowJ (K := 5) rfl hpre k hk 3 (by omega) v3 h2
  exact rowJ (K := 5) rfl hpre k hk 4 (by omega) v4 h3
end Go.Proofs.YtgnpgkkjcloghaaGreatDoor.Tr
namespace Go.Proofs.YtgnpgkkjcloghaaGreatDoor.Tr
open Go.RowKit Go.Proofs.YtgnpgkkjcloghaaGreatDoor.Bytes Go.Proofs.YtgnpgkkjcloghaaGreatDoor.Rows_ Go.Proofs.YtgnpgkkjcloghaaGreatDoor.RowK
set_option linter.unusedVariables false
attribute [local go_sem ↓] Go.wp_at_zero Go.wp_at_succ
set_option maxRecDepth 100000 in
set_option maxHeartbeats 1600000 in
theorem eqNode_yes (x0 : Int) (x1 : Bool) (x2 : Int) (w : World) :
    Calls Tryz.prog 140 #[.agg #[.int .i64 x0, .bool x1, .int .i64 x2], .agg #[.int .i64 x0, .bool x1, .int .i64 x2]] w fun e w' => e = .returned (.bool true) ∧ Below w.heap.size w w' := by
  have e0 : (x0 != x0) = false := by simp
  have e1 : (x1 != x1) = false := by simp
  have e2 : (x2 != x2) = false := by simp
  go_enter Tryz.func140, Tryz.ntmps140
  go_wp2_with fail
  go_ret
  refine ⟨rfl, ?_⟩
  repeat (first | refine Below.setCell ?_ (by simp <;> omega) _ | refine Below.alloc ?_ (by simp <;> omega) _)
  exact Below.refl _ _
set_option maxRecDepth 100000 in
set_option maxHeartbeats 1600000 in
theorem eqNodeS_yes (F G : Option Addr) (n c c' : Nat) (cs : List NodeD) (w : World) (hf : RdN w w.heap.size F cs) (hg : RdN w w.heap.size G cs) (hl : cs.length = n) (hn : n ≤ 1099511627776) :
    Calls Tryz.prog 118 #[.slice F n c, .slice G n c'] w fun e w' => e = .returned (.bool true) ∧ Below w.heap.size w w' := by
  have HF := Lib.hid hf
  have HG := Lib.hid hg
  have HL := Lib.hid hl
  have hnn : (n != n) = false := by simp
  clear hf hg hl
  go_enter Tryz.func118, Tryz.ntmps118
  go_wp2_with fail
  go_loopw [5] (fun i wr => ∃ k : Nat, k ≤ n ∧ i = .int .i64 k ∧ Below w.heap.size w wr) (fun i _ => n - (intOf i).toNat)
  case atStart => exact ⟨0, Nat.zero_le _, rfl, Below.refl _ _⟩
  case round =>
    obtain ⟨k, hk, rfl, hb⟩ := hrel
    have hz : w.heap.size ≤ wr.heap.size := hb.size
    by_cases hlt : k < n
    · have hlf : k < cs.length := by rw [HL.out]; exact hlt
      obtain ⟨b, o, rfl, hB, hc0, hc1, hc2⟩ := (HF.out.below (Nat.le_refl _) hb).at_ hlf
      obtain ⟨b', o', rfl, hB', hd0, hd1, hd2⟩ := (HG.out.below (Nat.le_refl _) hb).at_ hlf
      have HB := Lib.hid hb
      clear hb
      generalize cs[k].pane = x0 at *
      generalize cs[k].down = x1 at *
      generalize cs[k].first = x2 at *
      go_wp2_with fail
      go_region_with ((go_at_call 140; refine (eqNode_yes x0 x1 x2 _).mono ?_; rintro e v1 ⟨rfl, hb1'⟩; have hb1 : Below wr.heap.size wr v1 := undrew hb1'; clear hb1'))
      all_goals
        have HB1 := Lib.hid (HB.out.trans (hb1.mono hz))
        clear hb1
        go_wp2_with fail
        exact ⟨⟨k + 1, by omega, by go_num, HB1.out⟩, by simp [intOf]; omega⟩
    · obtain rfl : n = k := by omega
      go_wp2_with fail
      go_ret
      exact ⟨rfl, hb⟩
end Go.Proofs.YtgnpgkkjcloghaaGreatDoor.Tr
