/- New screens, in the program and in the model: both answer a blank screen, or the zero value. -/
import Derived.Test.YthlpchojlddnbaaGrNewB
import Derived.Test.YthlpchojlddnbaaScO
import Derived.Test.YthlpchojlddnbaaScLim
import Derived.Deep.RegionHeld3
import Derived.Deep.DrawnRows
import Derived.IntWalk
namespace Go.Proofs.Ythlpchojlddnbaa.Sc
open Go.RowKit Go.Proofs.Ythlpchojlddnbaa.Bytes Go.Proofs.Ythlpchojlddnbaa.Rows_ Go.Proofs.Ythlpchojlddnbaa.RowK Go.Proofs.Ythlpchojlddnbaa.Gr Go.Proofs.Ythlpchojlddnbaa.DOk Go.Proofs.Ythlpchojlddnbaa.Opq
set_option linter.unusedVariables false
attribute [local go_sem ↓] Go.wp_at_zero Go.wp_at_succ Sc.exec_storeS
theorem rowZ_setRow {w : World} {b n : Nat} {C : Array Value} (h : C.size = n) (hz : RowZ w b n) : RowZ (w.setRow b C) b n := by
  obtain ⟨D, T, hb, hD⟩ := hz
  exact ⟨C, T, setRow_heap w b D C T _ hb, h⟩
theorem cell_setRow' (w : World) (b b' j : Nat) (C : Array Value) (h : b' ≠ b) : (w.setRow b C).cell? ⟨b', j, none⟩ = w.cell? ⟨b', j, none⟩ := cell_setRow_other w b C _ h
attribute [local go_sem] blkOf_ptr isHead_ptr aggN_agg setRow_alloc rowZ_at rowZ_past rowZ_setRow cell_setRow'
theorem res55b {P : Program} {fn : Func} {p q : Tmp} {T : TypeId} {d : TypeDesc} {sz : Nat} (h : fn.results = #[.cell p T, .tmp q]) (hu : P.underlying T = some d) (hd : (match d with | .struct _ | .array _ _ => true | _ => false) = true) (hi : (P.info? T).map (·.size) = some sz)
    (tmps : Array Value) (w : World) (b : Nat) (C : Array Value) (v : Value) (hp : tmps.getD p undef = .pointer (some ⟨b, 0, none⟩)) (hq : tmps.getD q undef = v) (hb : RowB w b C) (hs : C.size = sz) : (results fn tmps).run P w = .ok (.tuple #[.agg C, v]) w := by
  obtain ⟨T', hb⟩ := hb
  have hp' : tmps[p]?.getD undef = .pointer (some ⟨b, 0, none⟩) := by simpa using hp
  have hq' : tmps[q]?.getD undef = v := by simpa using hq
  simp [results, h, hp', hq', asAddr, run_loadVar_row w b T' T C (0, 0) d hb hu hd (by rw [hi, hs])]
def zeroS : ScrS := ⟨0, 0, 0, 0, ⟨none, 0, []⟩, 0, 0, ⟨none, 0, []⟩, false, 0, 0, false, 0, 0, false, false, false, 0, 0, false, false, 0, 0, 0, 0, false, false, false, none, 0, [], 0, none, 0, []⟩
theorem zeroS_own (w : World) (base : Nat) : OwnS w base zeroS :=
  ⟨⟨by intro r hr; simp [zeroS] at hr; subst hr; exact ownC_nil _ _, by simp [zeroS]; intro g hg; cases hg⟩, World.ownsRow_nil w _ _ _, OwnR.nil w _⟩
end Go.Proofs.Ythlpchojlddnbaa.Sc

