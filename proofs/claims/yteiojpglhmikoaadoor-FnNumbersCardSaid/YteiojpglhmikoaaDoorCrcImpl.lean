/- Contract of the checksum, in the program: a plain function of the bytes. -/
import Derived.Test.YteiojpglhmikoaaDoorCrcCore
namespace Go.Proofs.YteiojpglhmikoaaDoor.Crc
open Go.RowKit Go.Proofs.YteiojpglhmikoaaDoor.Bytes
set_option linter.unusedVariables false

set_option maxRecDepth 100000 in
set_option maxHeartbeats 800000 in
theorem impl_any (A : Option Addr) (n c : Nat) (zs : List Int) (w : World) (hr : Rd w w.heap.size A zs) (hg : Rng zs) (hl : zs.length = n) (hn : n ≤ 1099511627776) :
    Calls Tryd.prog 11 #[.slice A n c] w fun e w' => e = .returned (.int .i64 ((4294967295 - cf zs : Nat) : Int)) ∧ Below w.heap.size w w' := by
  have HL := Lib.hid hl
  clear hl
  have hb0 : Below w.heap.size w (w.alloc (.cells #[.int .u32 4294967295] 88)) := (Below.refl _ _).alloc (Nat.le_refl _) _
  have hR := heap_alloc_new w (.cells #[.int .u32 4294967295] 88)
  have hr0 := hr.below (Nat.le_refl _) hb0
  have HR := Lib.hid hR
  have HB0 := Lib.hid hb0
  clear hR hb0
  go_enter Tryd.func11, Tryd.ntmps11
  go_wp2_with (first
    | (go_at_call 45; refine (part_any A n c w.heap.size zs _ hr0 hg HL.out hn HR.out).mono ?_; rintro e w1 ⟨rfl, hb1⟩)
    | go_in)
  go_ret
  exact ⟨rfl, HB0.out.trans hb1⟩

end Go.Proofs.YteiojpglhmikoaaDoor.Crc

