/- The program's search of a file by its id: slices.IndexFunc with a closure. -/
import Derived.Test.YtckiloacbanbmaaDoorDirSpec
namespace Go.Proofs.YtckiloacbanbmaaDoor.DOk
open Go.RowKit Go.Proofs.YtckiloacbanbmaaDoor.Bytes Go.Proofs.YtckiloacbanbmaaDoor.Rows_
set_option linter.unusedVariables false

set_option maxRecDepth 100000 in
theorem isId_any (x0 : Int) (x1 : Option Addr) (x2 x3 : Nat) (x4 id : Int) (B : Nat) (w : World) (hB : B < w.heap.size) (hc : w.cell? ⟨B, 0, none⟩ = some (.int .i64 id)) :
    Calls Tryd.prog 71 #[.agg #[.int .i64 x0, .slice x1 x2 x3, .int .i64 x4], .pointer (some ⟨B, 0, none⟩)] w fun e w' => e = .returned (.bool (x0 == id)) ∧ Below w.heap.size w w' := by
  have hne : B ≠ w.heap.size := by omega
  have hb0 := Lib.hid ((Below.refl w.heap.size w).alloc (Nat.le_refl _) (.cells #[.int .i64 x0, .slice x1 x2 x3, .int .i64 x4] 56))
  go_enter Tryd.func71, Tryd.ntmps71
  go_wp2_with fail
  go_ret
  exact ⟨rfl, hb0.out⟩

set_option maxRecDepth 100000 in
set_option maxHeartbeats 1600000 in
theorem indexFunc_hit (F : Option Addr) (nf cf : Nat) (fs : List FileD) (id : Int) (B i0 : Nat) (w : World) (hf : RdF w w.heap.size F fs) (hfl : fs.length = nf) (hfn : nf ≤ 2000) (hi : i0 < fs.length) (hno : ∀ j (hj : j < fs.length), j < i0 → fs[j].id ≠ id) (hyes : fs[i0].id = id)
    (hB : B < w.heap.size) (hc : w.cell? ⟨B, 0, none⟩ = some (.int .i64 id)) :
    Calls Tryd.prog 70 #[.slice F nf cf, .func (.func 71) #[] #[.pointer (some ⟨B, 0, none⟩)]] w fun e w' => e = .returned (.int .i64 (i0 : Nat)) ∧ Below w.heap.size w w' := by
  have hi' : i0 < nf := by omega
  have eg : ∀ args w, (callFunc 71 args).run Tryd.prog w = .ok (.enter 71 args) w := enters_of Tryd.func71 (by kernel_rfl) rfl
  have HF := Lib.hid hf
  have HFL := Lib.hid hfl
  have HN := Lib.hid hno
  have HY := Lib.hid hyes
  have HC := Lib.hid hc
  clear hf hfl hno hyes hc
  go_enter Tryd.func70, Tryd.ntmps70
  go_wp2_with fail
  go_loopw [5, 8] (fun _ i wr => ∃ k : Nat, k ≤ i0 ∧ i = .int .i64 (k : Nat) ∧ Below w.heap.size w wr) (fun _ i _ => nf - (intOf i).toNat)
  case atStart => exact ⟨0, Nat.zero_le _, rfl, Below.refl _ _⟩
  case round =>
    obtain ⟨k, hk, rfl, hb⟩ := hrel
    have hlt' : k < fs.length := by omega
    have hlt : k < nf := by omega
    obtain ⟨b, o, rfl, hBb, hc0, hc1, hc2⟩ := (HF.out.below (Nat.le_refl _) hb).at_ hlt'
    have HB := Lib.hid hb
    have hz : w.heap.size ≤ wr.heap.size := hb.size
    have hcall := fun x0 x1 x2 x3 x4 => isId_any x0 x1 x2 x3 x4 id B wr (Nat.lt_of_lt_of_le hB hz) ((hb.cell (p := ⟨B, 0, none⟩) hB).trans HC.out)
    have HCALL := Lib.hid hcall
    clear hb hcall
    by_cases hki : k = i0
    · have HID := Lib.hid (show (fs[k].id == id) = true by subst hki; simpa using HY.out)
      have HKI := Lib.hid hki
      clear hki
      generalize fs[k].id = x0 at *
      generalize fs[k].A = x1 at *
      generalize fs[k].n = x2 at *
      generalize fs[k].c = x3 at *
      generalize fs[k].safe = x4 at *
      have hcall := HCALL.out x0 x1 x2 x3 x4
      rw [HID.out] at hcall
      clear HCALL
      go_wp2_with (go_at_call 71; refine hcall.mono ?_; rintro e w' ⟨rfl, hb'⟩)
      go_ret
      exact ⟨by rw [HKI.out]; rfl, HB.out.trans (hb'.mono hz)⟩
    · have HID := Lib.hid (show (fs[k].id == id) = false by simpa using HN.out k hlt' (by omega))
      generalize fs[k].id = x0 at *
      generalize fs[k].A = x1 at *
      generalize fs[k].n = x2 at *
      generalize fs[k].c = x3 at *
      generalize fs[k].safe = x4 at *
      have hcall := HCALL.out x0 x1 x2 x3 x4
      rw [HID.out] at hcall
      clear HCALL
      go_wp2_with (go_at_call 71; refine hcall.mono ?_; rintro e w' ⟨rfl, hb'⟩)
      exact ⟨⟨k + 1, by omega, by go_num, HB.out.trans (hb'.mono hz)⟩, by simp [intOf]; omega⟩

set_option maxRecDepth 100000 in
set_option maxHeartbeats 1600000 in
theorem fileWith_hit (b o nf cf : Nat) (fs : List FileD) (id : Int) (i0 : Nat) (w : World) (hf : RdF w w.heap.size (some ⟨b, o, none⟩) fs) (hfl : fs.length = nf) (hfn : nf ≤ 2000) (hi : i0 < fs.length) (hno : ∀ j (hj : j < fs.length), j < i0 → fs[j].id ≠ id) (hyes : fs[i0].id = id) :
    Calls Tryd.prog 60 #[.slice (some ⟨b, o, none⟩) nf cf, .int .i64 id] w fun e w' => e = .returned (.pointer (some ⟨b, o + i0 * 3, none⟩)) ∧ Below w.heap.size w w' := by
  have hmf : ∀ (fn : Fn) (first cap : Array Value) (w : World), (Instr.makeFunc fn first cap).run Tryd.prog w = .ok (.func fn first cap) w := fun _ _ _ _ => rfl
  have hb0 := (Below.refl w.heap.size w).alloc (Nat.le_refl _) (.cells #[.int .i64 id] 3)
  have HCon := Lib.hid (indexFunc_hit (some ⟨b, o, none⟩) nf cf fs id w.heap.size i0 (w.alloc (.cells #[.int .i64 id] 3)) ((hf.below (Nat.le_refl _) hb0).more (by simp)) hfl hfn hi hno hyes (by simp) (by rw [World.cell?_alloc_at _ _ _ _ rfl]; rfl))
  have HB0 := Lib.hid hb0
  have hi' : i0 < nf := by omega
  clear hf hfl hno hyes hb0
  go_enter Tryd.func60, Tryd.ntmps60
  go_wp2_with (go_at_call 70; refine HCon.out.mono ?_; rintro e w1 ⟨rfl, hb1⟩)
  go_ret
  exact ⟨rfl, HB0.out.trans (hb1.mono (by simp))⟩
end Go.Proofs.YtckiloacbanbmaaDoor.DOk
