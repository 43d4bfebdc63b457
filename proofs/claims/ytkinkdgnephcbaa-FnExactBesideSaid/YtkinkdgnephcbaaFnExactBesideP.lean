/- FnExactBeside: the statement, from the walk of the law; at every list of nodes, every pane, side and area, no condition. -/
import Derived.Test.YtkinkdgnephcbaaRows
import Derived.Test.YtkinkdgnephcbaaLawBeside
import Derived.Test.YtkinkdgnephcbaaOpenNodes
import Derived.WalkKit
import Derived.ProofKit
import Derived.OpenShut
import Derived.ShutString
import Derived.ChangeOld
import Derived.Below
import Derived.JoinedOf
import Derived.Test.YtkinkdgnephcbaaClosed
namespace Go.Proofs.Ytkinkdgnephcbaa.fnExactBeside
open Go.ChangeShapes Go.WideShapes Go.ChangeAt Go.RowKit
open Go.ChangeMaps (open_string shut_string)
set_option linter.unusedVariables false

theorem laidOut : laidOutB Try.prog = true := by kernel_rfl

set_option maxRecDepth 100000 in
set_option maxHeartbeats 3200000 in
theorem lifted (os : Os) (started : os.Started) (H : Type) (enc : TypeId × Value → H) :
    ReturnsInHanded {} Try.checked os 10 .any (Rows.fnExactBesideSpec.pre6 enc Try.prog Try.f10 Rows.fnExactBesideRow.domain false) (Rows.fnExactBesideSpec.post enc Try.prog Try.f10 false true false false) := by
  refine returnsInHanded_of_change (C := Try.checked) own started (by kernel_rfl) Try.func10
    (ChangeSpec.witness6 (enc := enc) (C := Try.checked) false ⟨#[], #[.slice none 0 0, .int .i64 0, .int .i64 0, .int .i64 0, .int .i64 0], []⟩ 8 (by kernel_rfl) (by kernel_rfl) (by kernel_rfl) (by kernel_rfl)) ?_
  intro W base args ds gs before hval0 hW hcnd _
  have hval : ∀ (j : Nat) t v, Try.f10.params[j]? = some t → args[j]? = some v → Value.okWide Try.prog W .any base t v := hval0
  have hW' := hW
  obtain ⟨p, q, hA0, hV, rfl, hfz, hnd⟩ := hW
  have hA : DataW.TrodAll enc Try.prog W 0 (fun _ => true) true Try.f10.params.toList args.toList ds p := hA0
  rw [Try.params10] at hA hval
  obtain ⟨v0, vs0, d0, ds0, p0, q0, hargs, rfl, rfl, h0, r0⟩ := trodAll_cons hA
  obtain ⟨v1, vs1, d1, ds1, p1, q1, rfl, rfl, rfl, h1, r1⟩ := trodAll_cons r0
  obtain ⟨v2, vs2, d2, ds2, p2, q2, rfl, rfl, rfl, h2, r2⟩ := trodAll_cons r1
  obtain ⟨v3, vs3, d3, ds3, p3, q3, rfl, rfl, rfl, h3, r3⟩ := trodAll_cons r2
  obtain ⟨v4, vs4, d4, ds4, p4, q4, rfl, rfl, rfl, h4, r4⟩ := trodAll_cons r3
  obtain ⟨rfl, rfl, rfl⟩ := trodAll_nil r4
  obtain rfl : args = #[v0, v1, v2, v3, v4] := by cases args; simp_all
  obtain ⟨rfl, rfl⟩ := trodVars_none hV
  have k0 := h0
  have lt0 : ∀ x ∈ p0, x.block < W.heap.size := by obtain ⟨m, hm⟩ := k0; exact DataW.trod_lt m _ _ _ hm
  obtain ⟨A0, n0, c0, cs, rfl, f1, f2, f3⟩ := Opens.open_Nodes (hval 0 64 v0 rfl rfl) h0
  obtain ⟨a1, rfl, rfl, rfl, w1⟩ := open_int Try.underlying3 (hval 1 3 v1 rfl rfl) h1
  obtain ⟨a2, rfl, rfl, rfl, w2⟩ := open_int Try.underlying3 (hval 2 3 v2 rfl rfl) h2
  obtain ⟨a3, rfl, rfl, rfl, w3⟩ := open_int Try.underlying3 (hval 3 3 v3 rfl rfl) h3
  obtain ⟨a4, rfl, rfl, rfl, w4⟩ := open_int Try.underlying3 (hval 4 3 v4 rfl rfl) h4
  clear hA0 hval0
  refine (walk A0 n0 c0 cs a1 a2 a3 a4 W f1 f2 f3 w1 w2 w3 w4).mono fun e W' ⟨he, bel⟩ => ?_
  subst he
  exact ⟨_, rfl, _, _, _, [], _, [], hW', trodAll_mk1 (shut_bool Try.underlying4 _), (trodAll_cons_mk (Below.trod laidOut (by kernel_rfl) (of_decide_eq_true (by kernel_rfl)) k0 bel lt0) (trodAll_cons_mk (shut_int Try.underlying3 w1) (trodAll_cons_mk (shut_int Try.underlying3 w2) (trodAll_cons_mk (shut_int Try.underlying3 w3) (trodAll_cons_mk (shut_int Try.underlying3 w4) trodAll_mk0))))), rfl, bel.frame _, fun h => by cases h⟩

theorem c0 : (Rows.fnExactBesideRow.wf (OpenSpec.ofChange Rows.fnExactBesideSpec)) = true := by kernel_rfl
theorem c3 : (Try.f10.params.all (Try.checked.prog.readableRec ·)) = true := by kernel_rfl
theorem c4 : (namedTie Try.checked.prog Rows.fnExactBesideRow.named Rows.fnExactBesideSpec.vars) = true := by kernel_rfl
theorem c5 : ((Rows.fnExactBesideRow.stops == [])) = true := by kernel_rfl
theorem c7 : ((Rows.fnExactBesideRow.knobs == [])) = true := by kernel_rfl
theorem c9 : ((Rows.fnExactBesideRow.inPlace == Try.checked.prog.inPlace 10)) = true := by kernel_rfl
theorem c10 : ((Rows.fnExactBesideRow.unfollowed == Try.checked.prog.unfollowed 10)) = true := by kernel_rfl
theorem c11 : ((Rows.fnExactBesideRow.recurses == Try.checked.prog.recurses 10)) = true := by kernel_rfl
theorem c12 : ((Rows.fnExactBesideRow.named == Try.checked.prog.varsNamed 10)) = true := by kernel_rfl
theorem c13 : ((Rows.fnExactBesideRow.maps == (Try.f10.params.toList ++ Rows.fnExactBesideSpec.plain.varTypes Try.checked.prog).any (Try.checked.prog.mapsRec ·))) = true := by kernel_rfl
theorem c14 : ((Rows.fnExactBesideRow.ifaces == (Try.f10.params.toList ++ Rows.fnExactBesideSpec.plain.varTypes Try.checked.prog).any (Try.checked.prog.ifacesRec ·))) = true := by kernel_rfl
theorem c15 : ((Rows.fnExactBesideRow.mapsOut == Try.checked.prog.mapsAmong Try.f10.resultTypes.toList)) = true := by kernel_rfl
theorem c16 : ((Rows.fnExactBesideRow.loops == (Try.f10.params.toList ++ Rows.fnExactBesideSpec.plain.varTypes Try.checked.prog).any (Try.checked.prog.loopsFrom ·))) = true := by kernel_rfl
theorem c17 : ((Rows.fnExactBesideRow.wideKeys == (Try.f10.params.toList ++ Rows.fnExactBesideSpec.plain.varTypes Try.checked.prog ++ Try.f10.resultTypes.toList).any (Try.checked.prog.wideKeysFrom ·))) = true := by kernel_rfl
theorem c18 : (Rows.fnExactBesideSpec.vars.all (Try.checked.prog.varReadable ·)) = true := by kernel_rfl
theorem c19 : (Try.f10.resultTypes.all (fun t => Try.checked.prog.readableRec t && decide (t < Try.checked.prog.types.size))) = true := by kernel_rfl
theorem c20 : ((Rows.fnExactBesideRow.ifacesOut == Try.f10.resultTypes.toList.any (Try.checked.prog.ifacesRec ·))) = true := by kernel_rfl
theorem c21 : ((Rows.fnExactBesideRow.loopsOut == Try.f10.resultTypes.toList.any (Try.checked.prog.loopsFrom ·))) = true := by kernel_rfl
theorem c23 : (Rows.fnExactBesideRow.shortTexts.isNone) = true := by kernel_rfl
theorem c28 : ((Rows.fnExactBesideRow.kinds == (if Rows.fnExactBesideRow.domain.isEmpty then [] else Try.f10.params.toList.map fun t => match Try.checked.prog.underlying t with | some (.int k) => some k | _ => none))) = true := by kernel_rfl
theorem c29 : ((Rows.fnExactBesideRow.pinned == Rows.fnExactBesideRow.pinnedBy)) = true := by kernel_rfl
theorem c30 : ((Rows.fnExactBesideRow.veiled == (Try.f10.params.toList ++ Rows.fnExactBesideSpec.plain.varTypes Try.checked.prog ++ Try.f10.resultTypes.toList).any (Try.checked.prog.veiledRec ·))) = true := by kernel_rfl
theorem c31 : (Rows.fnExactBesideRow.veiledFits Try.checked.prog Try.f10.params.toList (Try.f10.params.toList ++ Rows.fnExactBesideSpec.plain.varTypes Try.checked.prog ++ Try.f10.resultTypes.toList)) = true := by kernel_rfl
set_option maxRecDepth 100000 in
theorem closed_ : joinedFacts Try.checked.prog 10 Try.f10 Rows.fnExactBesideSpec Rows.fnExactBesideRow = true := by
  unfold joinedFacts
  exact (Closed.and_ (Closed.and_ (Closed.and_ (Closed.and_ (Closed.and_ (Closed.and_ (Closed.and_ (Closed.and_ (Closed.and_ (Closed.and_ (Closed.and_ (Closed.and_ (Closed.and_ (Closed.and_ (Closed.and_ (Closed.and_ (Closed.and_ (Closed.and_ (Closed.and_ (Closed.and_ (Closed.and_ (Closed.and_ (Closed.and_ (Closed.and_ (Closed.and_ (Closed.and_ (Closed.and_ (Closed.and_ (Closed.and_ (Closed.and_ (Closed.and_ c0 (show (laidOutB Try.checked.prog) = true from Closed.laid)) (show (mapsRowed Try.checked.prog) = true from Closed.rowed)) c3) c4) c5) (show ((Try.checked.prog.stops == [])) = true from Closed.stops)) c7) (show ((Try.checked.prog.stopKnobs == [])) = true from Closed.knobs)) c9) c10) c11) c12) c13) c14) c15) c16) c17) c18) c19) c20) c21) (show ((Rows.fnExactBesideRow.plainKeys == Try.checked.prog.plainKeys)) = true from Closed.keys)) c23) (show (Try.checked.prog.stopsHeard) = true from Closed.heard)) (show (Try.checked.prog.mayEnter) = true from Closed.enter)) (show ((Rows.fnExactBesideRow.lifted == Try.checked.prog.liftsFinal)) = true from Closed.lifts)) (show ((Try.checked.prog.make == some Rows.fnExactBesideRow.make)) = true from Closed.make)) c28) c29) c30) c31)
theorem over : Rows.fnExactBesideRow.holds Try.pinned (OpenSpec.ofChange Rows.fnExactBesideSpec) :=
  OpenClaim.holds_of_wide 10 Try.f10 rfl rfl rfl rfl rfl rfl rfl ⟨rfl, rfl, rfl, rfl, rfl⟩ rfl rfl rfl rfl rfl (by kernel_rfl) Try.func10 closed_
    (of_decide_eq_true (by kernel_rfl)) (by unfold Func.isWrapper; first | (rw [if_pos (by decide +kernel)]; kernel_rfl) | (rw [if_neg (by decide +kernel)]; exact ⟨rfl, rfl⟩))
    (fun os started H enc _ => lifted os started H enc)

/-- ████ THE STATEMENT ████ -/
theorem proved : Rows.FnExactBesideSaid := over
end Go.Proofs.Ytkinkdgnephcbaa.fnExactBeside
