/- The contract of the text of a mark. -/
import Derived.Test.YtckiloacbanbmaaGreatRows
import Derived.WalkKit
import Derived.WalkSmall
import Derived.Deep.QuietTactic
import Derived.BigQuiet
import Derived.Deep.RegionHeld3
import Derived.Laws.BytesArg
import Derived.Laws.Concat
import Derived.Lib.Hide
import Derived.Lib.ItoaNum
namespace Go.Proofs.YtckiloacbanbmaaGreat.Mt
open Go.RowKit
set_option linter.unusedVariables false

/-! ### markText: the text of a mark -/
def dg (m : Nat) : ByteArray := if m = 0 then ⟨#[]⟩ else ⟨(Lib.decDigits m).toArray⟩
def mt (k : Nat) : ByteArray := ⟨#[109]⟩ ++ dg k
theorem dg_step {m : Nat} (h : 0 < m) (out : ByteArray) : dg m ++ out = dg (m / 10) ++ (strOfNums [(48 + (m : Int) % 10)] ++ out) := by
  have e : (48 + (m : Int) % 10).toNat = 48 + m % 10 := by omega
  have e3 : strOfNums [(48 + (m : Int) % 10)] = ⟨#[UInt8.ofNat (48 + m % 10)]⟩ := by unfold strOfNums; simp only [List.map_cons, List.map_nil, e]
  rw [← ByteArray.append_assoc]
  congr 1
  rw [e3]
  unfold dg
  rw [if_neg (by omega), Lib.decDigits]
  split
  · rename_i h10
    rw [if_pos (by omega), show m % 10 = m by omega]
    apply ByteArray.ext; simp
  · rw [if_neg (by omega)]
    apply ByteArray.ext; simp [ByteArray.data_append]
theorem dg_len (k : Nat) : ∀ m, m < 10 ^ k → (dg m).size ≤ k := by
  induction k with
  | zero => intro m h; have : m = 0 := by omega
            subst this; decide
  | succ k ih =>
    intro m h
    by_cases h0 : m = 0
    · subst h0; unfold dg; rw [if_pos rfl]; exact Nat.zero_le _
    · have e := congrArg ByteArray.size (dg_step (m := m) (by omega) ⟨#[]⟩)
      rw [ByteArray.size_append, ByteArray.size_append, ByteArray.size_append, strOfNums_size] at e
      have h2 : m / 10 < 10 ^ k := by rw [Nat.pow_succ] at h; omega
      have := ih (m / 10) h2
      have z : (⟨#[]⟩ : ByteArray).size = 0 := rfl
      simp only [List.length_cons, List.length_nil] at e
      omega
set_option maxRecDepth 100000 in
theorem one_run (W : World) (g : Nat) (z : Int) (h : W.cell? ⟨g, 0, none⟩ = some (.int .u8 z)) :
    (convert 27 9 (.slice (some ⟨g, 0, none⟩) 1 1)).run Tryz.prog W = .ok (.string (strOfNums [z])) W :=
  run_convert_bytes_arg W 27 5 Tryz.underlying27 Tryz.underlying5 g 0 1 1 [z] rfl (fun i hi => by
    obtain rfl : i = 0 := by omega
    simpa using h) 9 Tryz.underlying9

set_option maxRecDepth 100000 in
set_option maxHeartbeats 1600000 in
theorem mark_text (k : Nat) (w : World) (h1 : 1 ≤ k) (h2 : k ≤ 1099511627776) :
    Calls Tryz.prog 86 #[.int .i64 k] w fun e w' => e = .returned (.string (mt k)) ∧ Below w.heap.size w w' := by
  have hsz0 := Lib.hid (dg_len 13 k (by omega))
  go_enter Tryz.func86, Tryz.ntmps86
  go_wp2_with fail
  go_loopw [0, 3] (fun i v wr => ∃ (m : Nat) (out : ByteArray), i = .int .i64 m ∧ m ≤ k ∧ v = .string out ∧ dg m ++ out = dg k ∧ Below w.heap.size w wr) (fun i _ _ => (intOf i).toNat)
  case atStart => exact ⟨k, ⟨#[]⟩, rfl, Nat.le_refl _, rfl, by apply ByteArray.ext; simp [ByteArray.data_append], Below.refl _ _⟩
  case round =>
    obtain ⟨m, out, rfl, hm, rfl, he, hb⟩ := hrel
    have hos : out.size ≤ 13 := by have hsz := hsz0.out; rw [← he, ByteArray.size_append] at hsz; omega
    by_cases h0 : 0 < m
    · have hcv := fun W g => one_run W g (48 + (m : Int) % 10)
      have hadd := fun W : World => run_string_add_sum (P := Tryz.prog) W (strOfNums [48 + (m : Int) % 10]) out (by rw [strOfNums_size]; simp; omega)
      have HE := Lib.hid (show dg (m / 10) ++ (strOfNums [48 + (m : Int) % 10] ++ out) = dg k by rw [← dg_step h0]; exact he)
      have hbs := hb.size
      have HB := Lib.hid (fun o => hb.alloc hbs o)
      clear he hb hbs
      go_wp2_with fail
      exact ⟨⟨m / 10, _, by go_num, by omega, rfl, HE.out, HB.out _⟩, by simp [intOf]; omega⟩
    · obtain rfl : m = 0 := by omega
      have he0 : out = dg k := by
        rw [← he]; apply ByteArray.ext; simp [dg, ByteArray.data_append]
      have hadd := fun W : World => run_string_add_sum (P := Tryz.prog) W ⟨#[109]⟩ out (by have : (⟨#[109]⟩ : ByteArray).size = 1 := rfl; omega)
      have HE := Lib.hid he0
      have HB := Lib.hid hb
      clear he he0 hb
      go_wp2_with fail
      go_ret
      exact ⟨by rw [HE.out]; rfl, HB.out⟩
end Go.Proofs.YtckiloacbanbmaaGreat.Mt
