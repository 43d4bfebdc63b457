/- Words for slices of strings (what reads as a list, what the call owns), and the contracts of the laws' helpers over them; lengths at most 2^40. -/
import Derived.Test.YtcgcamhnebbalaaDoorRows
import Derived.WalkKit
import Derived.WalkSmall
import Derived.Deep.QuietTactic
import Derived.BigQuiet
import Derived.Deep.RegionHeld3
import Derived.Laws.BytesArg
import Derived.Laws.Concat
import Derived.Lib.Hide
import Derived.Lib.ItoaNum
namespace Go.Proofs.YtcgcamhnebbalaaDoor.Strs
open Go.RowKit
set_option linter.unusedVariables false

def sv (ss : List ByteArray) : List Value := ss.map Value.string
def at_ (ss : List ByteArray) (k : Nat) : ByteArray := (ss[k]?).getD ByteArray.empty
def Rd (w : World) (B : Nat) (A : Option Addr) (ss : List ByteArray) : Prop :=
  0 < ss.length → ∃ b o, A = some ⟨b, o, none⟩ ∧ b < B ∧ ∀ k, k < ss.length → w.cell? ⟨b, o + k, none⟩ = some (.string (at_ ss k))
def Own (w : World) (base : Nat) (A : Option Addr) (n c : Nat) (ss : List ByteArray) : Prop := w.ownsRow base 9 1 (.slice A n c) n (sv ss)
theorem Rd.below {w w' : World} {B B' : Nat} {A : Option Addr} {ss : List ByteArray} (h : Rd w B A ss) (hB : B ≤ B') (hb : Below B' w w') : Rd w' B A ss := by
  intro hn
  obtain ⟨b, o, e, hlt, hc⟩ := h hn
  exact ⟨b, o, e, hlt, fun k hk => (hb.cell (p := ⟨b, o + k, none⟩) (Nat.lt_of_lt_of_le hlt hB)).trans (hc k hk)⟩
theorem Rd.at_ {w : World} {B : Nat} {A : Option Addr} {ss : List ByteArray} (h : Rd w B A ss) {k : Nat} (hk : k < ss.length) :
    ∃ b o, A = some ⟨b, o, none⟩ ∧ b < B ∧ w.cell? ⟨b, o + k, none⟩ = some (.string (at_ ss k)) := by
  obtain ⟨b, o, e, hlt, hc⟩ := h (by omega)
  exact ⟨b, o, e, hlt, hc k hk⟩
theorem Own.len {w : World} {base : Nat} {A : Option Addr} {n c : Nat} {ss : List ByteArray} (h : Own w base A n c ss) : ss.length = n := by
  have := h.1; simpa [sv] using this
theorem Own.rd {w : World} {base : Nat} {A : Option Addr} {n c : Nat} {ss : List ByteArray} (h : Own w base A n c ss) : Rd w w.heap.size A ss := by
  intro hn
  have hl := h.len
  rcases h.2 with ⟨_, hz⟩ | ⟨g, cap, cur, hv, hb, hg, hnc, hm, hs, ht⟩
  · omega
  · injection hv with e1 e2 e3
    subst e1 e3
    refine ⟨g, 0, rfl, (Array.getElem?_eq_some_iff.1 hg).1, fun k hk => ?_⟩
    rw [Nat.zero_add, World.ownsRow.cellAt (h := h) k (by omega)]
    simp [sv, Strs.at_, hk]
theorem Own.head {w : World} {base : Nat} {A : Option Addr} {n c : Nat} {ss : List ByteArray} (h : Own w base A n c ss) (hn : 0 < n) : ∃ g, A = some ⟨g, 0, none⟩ ∧ base ≤ g ∧ g < w.heap.size := by
  rcases h.2 with ⟨_, hz⟩ | ⟨g, cap, cur, hv, hb, hg, _⟩
  · omega
  · injection hv with e1 e2 e3
    exact ⟨g, e1, hb, (Array.getElem?_eq_some_iff.1 hg).1⟩
theorem Own.spot {w : World} {base g n c : Nat} {ss : List ByteArray} (h : Own w base (some ⟨g, 0, none⟩) n c ss) {k : Nat} (hk : k < n) :
    w.cell? ⟨g, k, none⟩ = some (.string (at_ ss k)) ∧ w.frozen? ⟨g, k, none⟩ = false := by
  refine ⟨?_, World.ownsRow.frozenAt (h := h) k⟩
  have hl := h.len
  rw [World.ownsRow.cellAt (h := h) k (by omega)]
  simp [sv, Strs.at_, show k < ss.length by omega]
theorem Own.stored {w : World} {base g n c : Nat} {ss : List ByteArray} (h : Own w base (some ⟨g, 0, none⟩) n c ss) (k : Nat) (z : ByteArray) :
    Own (w.setCell ⟨g, k, none⟩ (.string z)) base (some ⟨g, 0, none⟩) n c (ss.set k z) ∧ w.grownBy (w.setCell ⟨g, k, none⟩ (.string z)) (some g) := by
  have hs := World.ownsRow.stored (h := h) k (.string z)
  refine ⟨?_, hs.2⟩
  have e : sv (ss.set k z) = (sv ss).set k (.string z) := by simp [sv]
  unfold Own; rw [e]; exact hs.1
theorem Own.below {w w' : World} {base B : Nat} {A : Option Addr} {n c : Nat} {ss : List ByteArray} (h : Own w base A n c ss) (hB : w.heap.size ≤ B) (hb : Below B w w') : Own w' base A n c ss := by
  refine ⟨h.1, ?_⟩
  rcases h.2 with h0 | ⟨g, cap, cur, hv, hbb, hg, rest⟩
  · exact .inl h0
  · have hlt : g < w.heap.size := (Array.getElem?_eq_some_iff.1 hg).1
    exact .inr ⟨g, cap, cur, hv, hbb, by rw [hb.block g (by omega)]; exact hg, rest⟩
theorem Own.more {w : World} {base base' : Nat} {A : Option Addr} {n c : Nat} {ss : List ByteArray} (h : Own w base A n c ss) (hB : base' ≤ base) : Own w base' A n c ss := by
  refine ⟨h.1, ?_⟩
  rcases h.2 with h0 | ⟨g, cap, cur, hv, hbb, rest⟩
  · exact .inl h0
  · exact .inr ⟨g, cap, cur, hv, by omega, rest⟩
theorem Own.keep {w w' : World} {base : Nat} {A : Option Addr} {n c : Nat} {ss : List ByteArray} {row : Option Nat} (h : Own w base A n c ss) (hg : w.grownBy w' row)
    (hne : ∀ g, (Value.slice A n c).ownBlock = some g → row ≠ some g) : Own w' base A n c ss := by
  refine World.ownsRow.kept h hg ?_
  rcases hv : (Value.slice A n c).ownBlock with _ | g
  · exact .inl rfl
  · exact .inr fun e => hne g hv e.symm
theorem Own.blk {w : World} {base : Nat} {A : Option Addr} {n c : Nat} {ss : List ByteArray} (h : Own w base A n c ss) : ∀ g, (Value.slice A n c).ownBlock = some g → base ≤ g ∧ g < w.heap.size := World.ownsRow.lt h
theorem grown_trans {a b d : World} {row : Option Nat} (h : a.grownBy b row) (k : b.grownBy d row) : a.grownBy d row :=
  ⟨k.os.trans h.os, k.tape.trans h.tape, k.output.trans h.output, Nat.le_trans h.size k.size, fun i hi hne => (k.block i (Nat.lt_of_lt_of_le hi h.size) hne).trans (h.block i hi hne)⟩
theorem grown_below {w w1 w2 : World} {row : Option Nat} {B : Nat} (h : w.grownBy w1 row) (hb : Below B w1 w2) (hB : w.heap.size ≤ B) : w.grownBy w2 row :=
  ⟨hb.os.trans h.os, hb.tape.trans h.tape, hb.output.trans h.output, Nat.le_trans h.size hb.size, fun k hk hne => (hb.block k (Nat.lt_of_lt_of_le hk hB)).trans (h.block k hk hne)⟩
theorem ret_int {k : IntKind} {a b : Int} (h : a = b) : Ending.returned (.int k a) = .returned (.int k b) := by rw [h]
theorem ret_bool {a b : Bool} (h : a = b) : Ending.returned (.bool a) = .returned (.bool b) := by rw [h]
theorem strInfo : (Tryd.prog.info? 9).map (fun i => (i.zero, i.size, i.bytes)) = some (some (.string ⟨#[]⟩), 1, 16) := by kernel_rfl

/-! ### eqStringS at two slices of the same strings -/
set_option maxRecDepth 100000 in
set_option maxHeartbeats 800000 in
theorem eq_yes (A A' : Option Addr) (n c c' : Nat) (ss : List ByteArray) (w : World) (hx : Rd w w.heap.size A ss) (hy : Rd w w.heap.size A' ss) (hl : ss.length = n) (hn : n ≤ 1099511627776) :
    Calls Tryd.prog 19 #[.slice A n c, .slice A' n c'] w fun e w' => e = .returned (.bool true) ∧ Below w.heap.size w w' := by
  have HL := Lib.hid hl
  clear hl
  go_enter Tryd.func19, Tryd.ntmps19
  go_wp2
  go_loopw [5] (fun i wr => ∃ k j : Nat, k ≤ n ∧ i = .int .i64 k ∧ wr = w.drewN j) (fun i _ => n - (intOf i).toNat)
  case atStart => exact ⟨0, 0, Nat.zero_le _, rfl, rfl⟩
  case round =>
    obtain ⟨k, j, hk, rfl, rfl⟩ := hrel
    by_cases hlt : k < n
    · obtain ⟨b, o, rfl, hB, hc⟩ := hx.at_ (k := k) (by rw [HL.out]; exact hlt)
      obtain ⟨b', o', rfl, hB', hc'⟩ := hy.at_ (k := k) (by rw [HL.out]; exact hlt)
      generalize at_ ss k = z at *
      clear hx hy
      go_wp2
      go_quiet (fail)
      go_wp2
      exact ⟨⟨k + 1, _, by omega, by go_num, rfl⟩, by simp [intOf]; omega⟩
    · obtain rfl : n = k := by omega
      go_wp2
      go_ret
      exact ⟨rfl, below_drewN (Below.refl _ _) _⟩

/-! ### markText: the text of a mark -/
def dg (m : Nat) : ByteArray := if m = 0 then ⟨#[]⟩ else ⟨(Lib.decDigits m).toArray⟩
def mt (k : Nat) : ByteArray := ⟨#[109]⟩ ++ dg k
theorem dg_step {m : Nat} (h : 0 < m) (out : ByteArray) : dg m ++ out = dg (m / 10) ++ (strOfNums [(48 + (m : Int) % 10)] ++ out) := by
  have e : (48 + (m : Int) % 10).toNat = 48 + m % 10 := by omega
  have e3 : strOfNums [(48 + (m : Int) % 10)] = ⟨#[UInt8.ofNat (48 + m % 10)]⟩ := by unfold strOfNums; simp only [List.map_cons, List.map_nil, e]
  rw [← ByteArray.append_assoc]
  congr 1
  rw [e3]
  unfold dg
  rw [if_neg (by omega), Lib.decDigits]
  split
  · rename_i h10
    rw [if_pos (by omega), show m % 10 = m by omega]
    apply ByteArray.ext; simp
  · rw [if_neg (by omega)]
    apply ByteArray.ext; simp [ByteArray.data_append]
theorem dg_len (k : Nat) : ∀ m, m < 10 ^ k → (dg m).size ≤ k := by
  induction k with
  | zero => intro m h; have : m = 0 := by omega
            subst this; decide
  | succ k ih =>
    intro m h
    by_cases h0 : m = 0
    · subst h0; unfold dg; rw [if_pos rfl]; exact Nat.zero_le _
    · have e := congrArg ByteArray.size (dg_step (m := m) (by omega) ⟨#[]⟩)
      rw [ByteArray.size_append, ByteArray.size_append, ByteArray.size_append, strOfNums_size] at e
      have h2 : m / 10 < 10 ^ k := by rw [Nat.pow_succ] at h; omega
      have := ih (m / 10) h2
      have z : (⟨#[]⟩ : ByteArray).size = 0 := rfl
      simp only [List.length_cons, List.length_nil] at e
      omega
set_option maxRecDepth 100000 in
theorem one_run (W : World) (g : Nat) (z : Int) (h : W.cell? ⟨g, 0, none⟩ = some (.int .u8 z)) :
    (convert 22 9 (.slice (some ⟨g, 0, none⟩) 1 1)).run Tryd.prog W = .ok (.string (strOfNums [z])) W :=
  run_convert_bytes_arg W 22 5 Tryd.underlying22 Tryd.underlying5 g 0 1 1 [z] rfl (fun i hi => by
    obtain rfl : i = 0 := by omega
    simpa using h) 9 Tryd.underlying9

set_option maxRecDepth 100000 in
set_option maxHeartbeats 1600000 in
theorem mark_text (k : Nat) (w : World) (h1 : 1 ≤ k) (h2 : k ≤ 1099511627776) :
    Calls Tryd.prog 32 #[.int .i64 k] w fun e w' => e = .returned (.string (mt k)) ∧ Below w.heap.size w w' := by
  have hsz0 := Lib.hid (dg_len 13 k (by omega))
  go_enter Tryd.func32, Tryd.ntmps32
  go_wp2_with fail
  go_loopw [0, 3] (fun i v wr => ∃ (m : Nat) (out : ByteArray), i = .int .i64 m ∧ m ≤ k ∧ v = .string out ∧ dg m ++ out = dg k ∧ Below w.heap.size w wr) (fun i _ _ => (intOf i).toNat)
  case atStart => exact ⟨k, ⟨#[]⟩, rfl, Nat.le_refl _, rfl, by apply ByteArray.ext; simp [ByteArray.data_append], Below.refl _ _⟩
  case round =>
    obtain ⟨m, out, rfl, hm, rfl, he, hb⟩ := hrel
    have hos : out.size ≤ 13 := by have hsz := hsz0.out; rw [← he, ByteArray.size_append] at hsz; omega
    by_cases h0 : 0 < m
    · have hcv := fun W g => one_run W g (48 + (m : Int) % 10)
      have hadd := fun W : World => run_string_add_sum (P := Tryd.prog) W (strOfNums [48 + (m : Int) % 10]) out (by rw [strOfNums_size]; simp; omega)
      have HE := Lib.hid (show dg (m / 10) ++ (strOfNums [48 + (m : Int) % 10] ++ out) = dg k by rw [← dg_step h0]; exact he)
      have hbs := hb.size
      have HB := Lib.hid (fun o => hb.alloc hbs o)
      clear he hb hbs
      go_wp2_with fail
      exact ⟨⟨m / 10, _, by go_num, by omega, rfl, HE.out, HB.out _⟩, by simp [intOf]; omega⟩
    · obtain rfl : m = 0 := by omega
      have he0 : out = dg k := by
        rw [← he]; apply ByteArray.ext; simp [dg, ByteArray.data_append]
      have hadd := fun W : World => run_string_add_sum (P := Tryd.prog) W ⟨#[109]⟩ out (by have : (⟨#[109]⟩ : ByteArray).size = 1 := rfl; omega)
      have HE := Lib.hid he0
      have HB := Lib.hid hb
      clear he he0 hb
      go_wp2_with fail
      go_ret
      exact ⟨by rw [HE.out]; rfl, HB.out⟩
end Go.Proofs.YtcgcamhnebbalaaDoor.Strs
