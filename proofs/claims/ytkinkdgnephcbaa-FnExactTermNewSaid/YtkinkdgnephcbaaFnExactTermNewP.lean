/- For every three ints the program's TermNew answers as its model in every field and owns what it answers; no condition. -/
import Derived.Test.YtkinkdgnephcbaaRows
import Derived.Test.YtkinkdgnephcbaaLawTermNew
import Derived.Test.YtkinkdgnephcbaaOpenFld
import Derived.WalkKit
import Derived.ProofKit
import Derived.OpenShut
import Derived.ShutString
import Derived.ChangeOld
import Derived.Below
import Derived.JoinedOf
import Derived.Test.YtkinkdgnephcbaaClosed
namespace Go.Proofs.Ytkinkdgnephcbaa.fnExactTermNew
open Go.ChangeShapes Go.WideShapes Go.ChangeAt Go.RowKit
open Go.ChangeMaps (open_string shut_string)
set_option linter.unusedVariables false

theorem laidOut : laidOutB Try.prog = true := by kernel_rfl

set_option maxRecDepth 100000 in
set_option maxHeartbeats 3200000 in
theorem lifted (os : Os) (started : os.Started) (H : Type) (enc : TypeId × Value → H) :
    ReturnsInHanded {} Try.checked os 7 .any (Rows.fnExactTermNewSpec.pre6 enc Try.prog Try.f7 Rows.fnExactTermNewRow.domain false) (Rows.fnExactTermNewSpec.post enc Try.prog Try.f7 false true false false) := by
  refine returnsInHanded_of_change (C := Try.checked) own started (by kernel_rfl) Try.func7
    (ChangeSpec.witness6 (enc := enc) (C := Try.checked) false ⟨#[], #[.int .i64 0, .int .i64 0, .int .i64 0], []⟩ 8 (by kernel_rfl) (by kernel_rfl) (by kernel_rfl) (by kernel_rfl)) ?_
  intro W base args ds gs before hval0 hW hcnd _
  have hval : ∀ (j : Nat) t v, Try.f7.params[j]? = some t → args[j]? = some v → Value.okWide Try.prog W .any base t v := hval0
  have hW' := hW
  obtain ⟨p, q, hA0, hV, rfl, hfz, hnd⟩ := hW
  have hA : DataW.TrodAll enc Try.prog W 0 (fun _ => true) true Try.f7.params.toList args.toList ds p := hA0
  rw [Try.params7] at hA hval
  obtain ⟨v0, vs0, d0, ds0, p0, q0, hargs, rfl, rfl, h0, r0⟩ := trodAll_cons hA
  obtain ⟨v1, vs1, d1, ds1, p1, q1, rfl, rfl, rfl, h1, r1⟩ := trodAll_cons r0
  obtain ⟨v2, vs2, d2, ds2, p2, q2, rfl, rfl, rfl, h2, r2⟩ := trodAll_cons r1
  obtain ⟨rfl, rfl, rfl⟩ := trodAll_nil r2
  obtain rfl : args = #[v0, v1, v2] := by cases args; simp_all
  obtain ⟨rfl, rfl⟩ := trodVars_none hV
  obtain ⟨a0, rfl, rfl, rfl, w0⟩ := open_int Try.underlying3 (hval 0 3 v0 rfl rfl) h0
  obtain ⟨a1, rfl, rfl, rfl, w1⟩ := open_int Try.underlying3 (hval 1 3 v1 rfl rfl) h1
  obtain ⟨a2, rfl, rfl, rfl, w2⟩ := open_int Try.underlying3 (hval 2 3 v2 rfl rfl) h2
  clear hA0 hval0
  refine (walk a0 a1 a2 W w0 w1 w2).mono fun e W' ⟨he, bel⟩ => ?_
  subst he
  exact ⟨_, rfl, _, _, _, [], _, [], hW', trodAll_mk1 (shut_bool Try.underlying4 _), (trodAll_cons_mk (shut_int Try.underlying3 w0) (trodAll_cons_mk (shut_int Try.underlying3 w1) (trodAll_cons_mk (shut_int Try.underlying3 w2) trodAll_mk0))), rfl, bel.frame _, fun h => by cases h⟩

theorem c0 : (Rows.fnExactTermNewRow.wf (OpenSpec.ofChange Rows.fnExactTermNewSpec)) = true := by kernel_rfl
theorem c3 : (Try.f7.params.all (Try.checked.prog.readableRec ·)) = true := by kernel_rfl
theorem c4 : (namedTie Try.checked.prog Rows.fnExactTermNewRow.named Rows.fnExactTermNewSpec.vars) = true := by kernel_rfl
theorem c5 : ((Rows.fnExactTermNewRow.stops == [])) = true := by kernel_rfl
theorem c7 : ((Rows.fnExactTermNewRow.knobs == [])) = true := by kernel_rfl
theorem c9 : ((Rows.fnExactTermNewRow.inPlace == Try.checked.prog.inPlace 7)) = true := by kernel_rfl
theorem c10 : ((Rows.fnExactTermNewRow.unfollowed == Try.checked.prog.unfollowed 7)) = true := by kernel_rfl
theorem c11 : ((Rows.fnExactTermNewRow.recurses == Try.checked.prog.recurses 7)) = true := by kernel_rfl
theorem c12 : ((Rows.fnExactTermNewRow.named == Try.checked.prog.varsNamed 7)) = true := by kernel_rfl
theorem c13 : ((Rows.fnExactTermNewRow.maps == (Try.f7.params.toList ++ Rows.fnExactTermNewSpec.plain.varTypes Try.checked.prog).any (Try.checked.prog.mapsRec ·))) = true := by kernel_rfl
theorem c14 : ((Rows.fnExactTermNewRow.ifaces == (Try.f7.params.toList ++ Rows.fnExactTermNewSpec.plain.varTypes Try.checked.prog).any (Try.checked.prog.ifacesRec ·))) = true := by kernel_rfl
theorem c15 : ((Rows.fnExactTermNewRow.mapsOut == Try.checked.prog.mapsAmong Try.f7.resultTypes.toList)) = true := by kernel_rfl
theorem c16 : ((Rows.fnExactTermNewRow.loops == (Try.f7.params.toList ++ Rows.fnExactTermNewSpec.plain.varTypes Try.checked.prog).any (Try.checked.prog.loopsFrom ·))) = true := by kernel_rfl
theorem c17 : ((Rows.fnExactTermNewRow.wideKeys == (Try.f7.params.toList ++ Rows.fnExactTermNewSpec.plain.varTypes Try.checked.prog ++ Try.f7.resultTypes.toList).any (Try.checked.prog.wideKeysFrom ·))) = true := by kernel_rfl
theorem c18 : (Rows.fnExactTermNewSpec.vars.all (Try.checked.prog.varReadable ·)) = true := by kernel_rfl
theorem c19 : (Try.f7.resultTypes.all (fun t => Try.checked.prog.readableRec t && decide (t < Try.checked.prog.types.size))) = true := by kernel_rfl
theorem c20 : ((Rows.fnExactTermNewRow.ifacesOut == Try.f7.resultTypes.toList.any (Try.checked.prog.ifacesRec ·))) = true := by kernel_rfl
theorem c21 : ((Rows.fnExactTermNewRow.loopsOut == Try.f7.resultTypes.toList.any (Try.checked.prog.loopsFrom ·))) = true := by kernel_rfl
theorem c23 : (Rows.fnExactTermNewRow.shortTexts.isNone) = true := by kernel_rfl
theorem c28 : ((Rows.fnExactTermNewRow.kinds == (if Rows.fnExactTermNewRow.domain.isEmpty then [] else Try.f7.params.toList.map fun t => match Try.checked.prog.underlying t with | some (.int k) => some k | _ => none))) = true := by kernel_rfl
theorem c29 : ((Rows.fnExactTermNewRow.pinned == Rows.fnExactTermNewRow.pinnedBy)) = true := by kernel_rfl
theorem c30 : ((Rows.fnExactTermNewRow.veiled == (Try.f7.params.toList ++ Rows.fnExactTermNewSpec.plain.varTypes Try.checked.prog ++ Try.f7.resultTypes.toList).any (Try.checked.prog.veiledRec ·))) = true := by kernel_rfl
theorem c31 : (Rows.fnExactTermNewRow.veiledFits Try.checked.prog Try.f7.params.toList (Try.f7.params.toList ++ Rows.fnExactTermNewSpec.plain.varTypes Try.checked.prog ++ Try.f7.resultTypes.toList)) = true := by kernel_rfl
set_option maxRecDepth 100000 in
theorem closed_ : joinedFacts Try.checked.prog 7 Try.f7 Rows.fnExactTermNewSpec Rows.fnExactTermNewRow = true := by
  unfold joinedFacts
  exact (Closed.and_ (Closed.and_ (Closed.and_ (Closed.and_ (Closed.and_ (Closed.and_ (Closed.and_ (Closed.and_ (Closed.and_ (Closed.and_ (Closed.and_ (Closed.and_ (Closed.and_ (Closed.and_ (Closed.and_ (Closed.and_ (Closed.and_ (Closed.and_ (Closed.and_ (Closed.and_ (Closed.and_ (Closed.and_ (Closed.and_ (Closed.and_ (Closed.and_ (Closed.and_ (Closed.and_ (Closed.and_ (Closed.and_ (Closed.and_ (Closed.and_ c0 (show (laidOutB Try.checked.prog) = true from Closed.laid)) (show (mapsRowed Try.checked.prog) = true from Closed.rowed)) c3) c4) c5) (show ((Try.checked.prog.stops == [])) = true from Closed.stops)) c7) (show ((Try.checked.prog.stopKnobs == [])) = true from Closed.knobs)) c9) c10) c11) c12) c13) c14) c15) c16) c17) c18) c19) c20) c21) (show ((Rows.fnExactTermNewRow.plainKeys == Try.checked.prog.plainKeys)) = true from Closed.keys)) c23) (show (Try.checked.prog.stopsHeard) = true from Closed.heard)) (show (Try.checked.prog.mayEnter) = true from Closed.enter)) (show ((Rows.fnExactTermNewRow.lifted == Try.checked.prog.liftsFinal)) = true from Closed.lifts)) (show ((Try.checked.prog.make == some Rows.fnExactTermNewRow.make)) = true from Closed.make)) c28) c29) c30) c31)
theorem over : Rows.fnExactTermNewRow.holds Try.pinned (OpenSpec.ofChange Rows.fnExactTermNewSpec) :=
  OpenClaim.holds_of_wide 7 Try.f7 rfl rfl rfl rfl rfl rfl rfl ⟨rfl, rfl, rfl, rfl, rfl⟩ rfl rfl rfl rfl rfl (by kernel_rfl) Try.func7 closed_
    (of_decide_eq_true (by kernel_rfl)) (by unfold Func.isWrapper; first | (rw [if_pos (by decide +kernel)]; kernel_rfl) | (rw [if_neg (by decide +kernel)]; exact ⟨rfl, rfl⟩))
    (fun os started H enc _ => lifted os started H enc)

/-- ████ THE STATEMENT ████ -/
theorem proved : Rows.FnExactTermNewSaid := over
end Go.Proofs.Ytkinkdgnephcbaa.fnExactTermNew
