/- Contracts of the names of a generation's files: what they share. -/
import Derived.Test.YteiojpglhmikoaaDoorTextNt
namespace Go.Proofs.YteiojpglhmikoaaDoor.Num
open Go.RowKit
set_option linter.unusedVariables false

def snapP : ByteArray := ⟨#[115, 110, 97, 112, 46]⟩
def logP : ByteArray := ⟨#[108, 111, 103, 46]⟩
/-- the name of a generation's file -/
def nm (p : ByteArray) (g : Int) : ByteArray := if 1 ≤ g ∧ g ≤ 1000000000 then p ++ nt g else ⟨#[]⟩
theorem nm_yes {p : ByteArray} {g : Int} (h1 : 1 ≤ g) (h2 : g ≤ 1000000000) : nm p g = p ++ nt g := if_pos ⟨h1, h2⟩
theorem nm_no {p : ByteArray} {g : Int} (h : g < 1 ∨ 1000000000 < g) : nm p g = ⟨#[]⟩ := if_neg (by omega)
theorem nt_len (g : Int) : (nt g).size ≤ 10 := by
  unfold nt; split
  · exact dg_len10 (by omega)
  · exact Nat.zero_le 10

theorem isGenN_yes (s : Int) (w : World) (h0 : 1 ≤ s) (h1 : s ≤ 1000000000) :
    Calls Tryd.prog 20 #[.int .i64 s] w fun e w' => e = .returned (.bool true) ∧ w = w' := by
  go_enter Tryd.func20, Tryd.ntmps20
  go_wp2
  go_ret
  exact ⟨ret_bool (by simp <;> omega), rfl⟩
theorem isGenN_no (s : Int) (w : World) (h0 : s < 1 ∨ 1000000000 < s) :
    Calls Tryd.prog 20 #[.int .i64 s] w fun e w' => e = .returned (.bool false) ∧ w = w' := by
  rcases h0 with h0 | h0 <;>
  · go_enter Tryd.func20, Tryd.ntmps20
    go_wp2
    go_ret
    exact ⟨ret_bool (by simp <;> omega), rfl⟩

set_option maxRecDepth 100000 in
theorem impl_nameOfGen (p : ByteArray) (hp : p.size ≤ 16) (g : Int) (w : World) (htab : Lib.TabIs Tryd.prog w "internal/strconv.uint64pow10" .u64 Lib.pow10Tab) :
    Calls Tryd.prog 29 #[.string p, .int .i64 g] w fun e w' => e = .returned (.string (nm p g)) ∧ Below w.heap.size w w' := by
  by_cases h : 1 ≤ g ∧ g ≤ 1000000000
  · rw [nm_yes h.1 h.2]
    have hl := nt_len g
    have hi := Lib.hid (impl_nt g)
    have HT := Lib.hid htab
    obtain ⟨h1, h2⟩ := h
    clear htab
    generalize nt g = T at *
    have hadd := fun W : World => run_string_add_sum (P := Tryd.prog) W p T (by omega)
    go_enter Tryd.func29, Tryd.ntmps29
    go_wp2_with fail
    refine (isGenN_yes _ _ h1 h2).mono ?_
    rintro e w' ⟨rfl, rfl⟩
    go_wp2_with fail
    refine (hi.out _ HT.out).mono ?_
    rintro e w1 ⟨rfl, hb1⟩
    go_wp2_with fail
    go_ret
    exact ⟨rfl, hb1⟩
  · have h' : g < 1 ∨ 1000000000 < g := by omega
    rw [nm_no h']
    have H := Lib.hid h'
    clear h h'
    go_enter Tryd.func29, Tryd.ntmps29
    go_wp2_with fail
    refine (isGenN_no _ _ H.out).mono ?_
    rintro e w' ⟨rfl, rfl⟩
    go_wp2_with fail
    go_ret
    exact ⟨rfl, Below.refl _ _⟩

end Go.Proofs.YteiojpglhmikoaaDoor.Num

