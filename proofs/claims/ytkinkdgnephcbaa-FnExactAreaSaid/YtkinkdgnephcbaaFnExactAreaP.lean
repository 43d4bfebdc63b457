/- For every state and int the program's Area answers as its model and leaves its arguments as they were; no condition. -/
import Derived.Test.YtkinkdgnephcbaaRows
import Derived.Test.YtkinkdgnephcbaaLawArea
import Derived.Test.YtkinkdgnephcbaaKitO
import Derived.WalkKit
import Derived.ProofKit
import Derived.OpenShut
import Derived.ShutString
import Derived.ChangeOld
import Derived.Below
import Derived.JoinedOf
import Derived.Test.YtkinkdgnephcbaaClosed
namespace Go.Proofs.Ytkinkdgnephcbaa.fnExactArea
open Go.ChangeShapes Go.WideShapes Go.ChangeAt Go.RowKit
open Go.ChangeMaps (open_string shut_string)
set_option linter.unusedVariables false

theorem laidOut : laidOutB Try.prog = true := by kernel_rfl

set_option maxRecDepth 100000 in
set_option maxHeartbeats 3200000 in
theorem lifted (os : Os) (started : os.Started) (H : Type) (enc : TypeId × Value → H) :
    ReturnsInHanded {} Try.checked os 16 .any (Rows.fnExactAreaSpec.pre6 enc Try.prog Try.f16 Rows.fnExactAreaRow.domain false) (Rows.fnExactAreaSpec.post enc Try.prog Try.f16 false true false false) := by
  refine returnsInHanded_of_change (C := Try.checked) own started (by kernel_rfl) Try.func16
    (ChangeSpec.witness6 (enc := enc) (C := Try.checked) false ⟨#[], #[.agg #[.int .i64 0, .int .i64 0, .int .i64 0, .int .i64 0, .slice none 0 0, .slice none 0 0, .slice none 0 0], .int .i64 0], []⟩ 8 (by kernel_rfl) (by kernel_rfl) (by kernel_rfl) (by kernel_rfl)) ?_
  intro W base args ds gs before hval0 hW hcnd _
  have hval : ∀ (j : Nat) t v, Try.f16.params[j]? = some t → args[j]? = some v → Value.okWide Try.prog W .any base t v := hval0
  have hW' := hW
  obtain ⟨p, q, hA0, hV, rfl, hfz, hnd⟩ := hW
  have hA : DataW.TrodAll enc Try.prog W 0 (fun _ => true) true Try.f16.params.toList args.toList ds p := hA0
  rw [Try.params16] at hA hval
  obtain ⟨v0, vs0, d0, ds0, p0, q0, hargs, rfl, rfl, h0, r0⟩ := trodAll_cons hA
  obtain ⟨v1, vs1, d1, ds1, p1, q1, rfl, rfl, rfl, h1, r1⟩ := trodAll_cons r0
  obtain ⟨rfl, rfl, rfl⟩ := trodAll_nil r1
  obtain rfl : args = #[v0, v1] := by cases args; simp_all
  obtain ⟨rfl, rfl⟩ := trodVars_none hV
  have k0 := h0
  have lt0 : ∀ x ∈ p0, x.block < W.heap.size := by obtain ⟨m, hm⟩ := k0; exact DataW.trod_lt m _ _ _ hm
  obtain ⟨s, rfl, y1, z1⟩ := Opens.open_State (hval 0 74 v0 rfl rfl) h0
  obtain ⟨a1, rfl, rfl, rfl, w1⟩ := open_int Try.underlying3 (hval 1 3 v1 rfl rfl) h1
  clear hA0 hval0
  refine (walk s a1 W y1 z1 w1).mono fun e W' ⟨he, bel⟩ => ?_
  subst he
  exact ⟨_, rfl, _, _, _, [], _, [], hW', trodAll_mk1 (shut_bool Try.underlying4 _), (trodAll_cons_mk (Below.trod laidOut (by kernel_rfl) (of_decide_eq_true (by kernel_rfl)) k0 bel lt0) (trodAll_cons_mk (shut_int Try.underlying3 w1) trodAll_mk0)), rfl, bel.frame _, fun h => by cases h⟩

theorem c0 : (Rows.fnExactAreaRow.wf (OpenSpec.ofChange Rows.fnExactAreaSpec)) = true := by kernel_rfl
theorem c3 : (Try.f16.params.all (Try.checked.prog.readableRec ·)) = true := by kernel_rfl
theorem c4 : (namedTie Try.checked.prog Rows.fnExactAreaRow.named Rows.fnExactAreaSpec.vars) = true := by kernel_rfl
theorem c5 : ((Rows.fnExactAreaRow.stops == [])) = true := by kernel_rfl
theorem c7 : ((Rows.fnExactAreaRow.knobs == [])) = true := by kernel_rfl
theorem c9 : ((Rows.fnExactAreaRow.inPlace == Try.checked.prog.inPlace 16)) = true := by kernel_rfl
theorem c10 : ((Rows.fnExactAreaRow.unfollowed == Try.checked.prog.unfollowed 16)) = true := by kernel_rfl
theorem c11 : ((Rows.fnExactAreaRow.recurses == Try.checked.prog.recurses 16)) = true := by kernel_rfl
theorem c12 : ((Rows.fnExactAreaRow.named == Try.checked.prog.varsNamed 16)) = true := by kernel_rfl
theorem c13 : ((Rows.fnExactAreaRow.maps == (Try.f16.params.toList ++ Rows.fnExactAreaSpec.plain.varTypes Try.checked.prog).any (Try.checked.prog.mapsRec ·))) = true := by kernel_rfl
theorem c14 : ((Rows.fnExactAreaRow.ifaces == (Try.f16.params.toList ++ Rows.fnExactAreaSpec.plain.varTypes Try.checked.prog).any (Try.checked.prog.ifacesRec ·))) = true := by kernel_rfl
theorem c15 : ((Rows.fnExactAreaRow.mapsOut == Try.checked.prog.mapsAmong Try.f16.resultTypes.toList)) = true := by kernel_rfl
theorem c16 : ((Rows.fnExactAreaRow.loops == (Try.f16.params.toList ++ Rows.fnExactAreaSpec.plain.varTypes Try.checked.prog).any (Try.checked.prog.loopsFrom ·))) = true := by kernel_rfl
theorem c17 : ((Rows.fnExactAreaRow.wideKeys == (Try.f16.params.toList ++ Rows.fnExactAreaSpec.plain.varTypes Try.checked.prog ++ Try.f16.resultTypes.toList).any (Try.checked.prog.wideKeysFrom ·))) = true := by kernel_rfl
theorem c18 : (Rows.fnExactAreaSpec.vars.all (Try.checked.prog.varReadable ·)) = true := by kernel_rfl
theorem c19 : (Try.f16.resultTypes.all (fun t => Try.checked.prog.readableRec t && decide (t < Try.checked.prog.types.size))) = true := by kernel_rfl
theorem c20 : ((Rows.fnExactAreaRow.ifacesOut == Try.f16.resultTypes.toList.any (Try.checked.prog.ifacesRec ·))) = true := by kernel_rfl
theorem c21 : ((Rows.fnExactAreaRow.loopsOut == Try.f16.resultTypes.toList.any (Try.checked.prog.loopsFrom ·))) = true := by kernel_rfl
theorem c23 : (Rows.fnExactAreaRow.shortTexts.isNone) = true := by kernel_rfl
theorem c28 : ((Rows.fnExactAreaRow.kinds == (if Rows.fnExactAreaRow.domain.isEmpty then [] else Try.f16.params.toList.map fun t => match Try.checked.prog.underlying t with | some (.int k) => some k | _ => none))) = true := by kernel_rfl
theorem c29 : ((Rows.fnExactAreaRow.pinned == Rows.fnExactAreaRow.pinnedBy)) = true := by kernel_rfl
theorem c30 : ((Rows.fnExactAreaRow.veiled == (Try.f16.params.toList ++ Rows.fnExactAreaSpec.plain.varTypes Try.checked.prog ++ Try.f16.resultTypes.toList).any (Try.checked.prog.veiledRec ·))) = true := by kernel_rfl
theorem c31 : (Rows.fnExactAreaRow.veiledFits Try.checked.prog Try.f16.params.toList (Try.f16.params.toList ++ Rows.fnExactAreaSpec.plain.varTypes Try.checked.prog ++ Try.f16.resultTypes.toList)) = true := by kernel_rfl
set_option maxRecDepth 100000 in
theorem closed_ : joinedFacts Try.checked.prog 16 Try.f16 Rows.fnExactAreaSpec Rows.fnExactAreaRow = true := by
  unfold joinedFacts
  exact (Closed.and_ (Closed.and_ (Closed.and_ (Closed.and_ (Closed.and_ (Closed.and_ (Closed.and_ (Closed.and_ (Closed.and_ (Closed.and_ (Closed.and_ (Closed.and_ (Closed.and_ (Closed.and_ (Closed.and_ (Closed.and_ (Closed.and_ (Closed.and_ (Closed.and_ (Closed.and_ (Closed.and_ (Closed.and_ (Closed.and_ (Closed.and_ (Closed.and_ (Closed.and_ (Closed.and_ (Closed.and_ (Closed.and_ (Closed.and_ (Closed.and_ c0 (show (laidOutB Try.checked.prog) = true from Closed.laid)) (show (mapsRowed Try.checked.prog) = true from Closed.rowed)) c3) c4) c5) (show ((Try.checked.prog.stops == [])) = true from Closed.stops)) c7) (show ((Try.checked.prog.stopKnobs == [])) = true from Closed.knobs)) c9) c10) c11) c12) c13) c14) c15) c16) c17) c18) c19) c20) c21) (show ((Rows.fnExactAreaRow.plainKeys == Try.checked.prog.plainKeys)) = true from Closed.keys)) c23) (show (Try.checked.prog.stopsHeard) = true from Closed.heard)) (show (Try.checked.prog.mayEnter) = true from Closed.enter)) (show ((Rows.fnExactAreaRow.lifted == Try.checked.prog.liftsFinal)) = true from Closed.lifts)) (show ((Try.checked.prog.make == some Rows.fnExactAreaRow.make)) = true from Closed.make)) c28) c29) c30) c31)
theorem over : Rows.fnExactAreaRow.holds Try.pinned (OpenSpec.ofChange Rows.fnExactAreaSpec) :=
  OpenClaim.holds_of_wide 16 Try.f16 rfl rfl rfl rfl rfl rfl rfl ⟨rfl, rfl, rfl, rfl, rfl⟩ rfl rfl rfl rfl rfl (by kernel_rfl) Try.func16 closed_
    (of_decide_eq_true (by kernel_rfl)) (by unfold Func.isWrapper; first | (rw [if_pos (by decide +kernel)]; kernel_rfl) | (rw [if_neg (by decide +kernel)]; exact ⟨rfl, rfl⟩))
    (fun os started H enc _ => lifted os started H enc)

/-- ████ THE STATEMENT ████ -/
theorem proved : Rows.FnExactAreaSaid := over
end Go.Proofs.Ytkinkdgnephcbaa.fnExactArea
