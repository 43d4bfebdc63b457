/- For every width, height and limit the program's StateNew answers as its model in every field and owns what it answers; no condition. -/
import Derived.Test.YtgnpgkkjcloghaaGreatDoorRows
import Derived.Test.YtgnpgkkjcloghaaGreatDoorCards
import Derived.Test.YtgnpgkkjcloghaaGreatDoorTie
import Derived.Test.YtgnpgkkjcloghaaGreatDoorLawStateNew
import Derived.Test.YtgnpgkkjcloghaaGreatDoorDecTab
import Derived.Lay
import Derived.LaidMore
import Derived.Stop.Joined
import Derived.SevenTiedAt
import Derived.WalkKit
import Derived.ProofKit
import Derived.OpenShut
import Derived.ShutString
import Derived.ChangeOld
import Derived.Below
import Derived.JoinedOf
import Derived.Test.YtgnpgkkjcloghaaGreatDoorClosed
namespace Go.Proofs.YtgnpgkkjcloghaaGreatDoor.fnExactStateNew
open Go.ChangeShapes Go.WideShapes Go.ChangeAt Go.RowKit
open Go.ChangeMaps (open_string shut_string)
set_option linter.unusedVariables false

theorem ownKnobF : ownKnob Tryz.prog.godebug = none := by kernel_rfl
theorem laidOut : laidOutB Tryz.prog = true := by kernel_rfl


set_option maxRecDepth 100000 in
theorem lifted (os : Os) (started : os.Started) (H : Type) (enc : TypeId × Value → H) :
    ReturnsInHanded {} Tryz.checked os 4 .any (fun w args => (Rows.fnExactStateNewSpec.pre enc Tryz.prog Tryz.f4 [] false w args ∧ laidMetH Tryz.prog Rows.fnExactStateNewRow.laid w) ∧ sizedMet enc Tryz.prog Tryz.f4 (OpenSpec.ofChange Rows.fnExactStateNewSpec) false w args)
      (Rows.fnExactStateNewSpec.post enc Tryz.prog Tryz.f4 false true false false) := by
  refine returnsInHanded_of_change_and (C := Tryz.checked) (X := fun w _ => laidMetH Tryz.prog Rows.fnExactStateNewRow.laid w) (fun _ _ _ hh h => h.of_heap hh) ownKnobF started (by kernel_rfl) Tryz.func4
    (ChangeSpec.witness_shaped (enc := enc) (C := Tryz.checked) (os := os) (X := fun w _ => laidMetH Tryz.prog Rows.fnExactStateNewRow.laid w) false (World.laidAll Tryz.prog os Rows.fnExactStateNewRow.laid) #[.int .i64 0, .int .i64 0, .int .i64 0] 8 (World.laidAll_os _ _ _) (World.shaped_of_ZipB (by kernel_rfl) (by kernel_rfl)) (by kernel_rfl) (by kernel_rfl) (by kernel_rfl) (by rw [MakeChecks.laidMetH_plain _ _ _ (by kernel_rfl)]; exact laidMet_laidAll _ (by kernel_rfl) (by kernel_rfl))) ?_
  intro W base args ds gs before hval0 hW _ _ hL _
  have hval : ∀ (j : Nat) t v, Tryz.f4.params[j]? = some t → args[j]? = some v → Value.okWide Tryz.prog W .any base t v := hval0
  have hW' := hW
  obtain ⟨p, q, hA0, hV, rfl, hfz, hnd⟩ := hW
  have hA : DataW.TrodAll enc Tryz.prog W 0 (fun _ => true) true Tryz.f4.params.toList args.toList ds p := hA0
  rw [Tryz.params4] at hA hval
  obtain ⟨v0, vs0, d0, ds0, p0, q0, hargs, rfl, rfl, h0, r0⟩ := trodAll_cons hA
  obtain ⟨v1, vs1, d1, ds1, p1, q1, rfl, rfl, rfl, h1, r1⟩ := trodAll_cons r0
  obtain ⟨v2, vs2, d2, ds2, p2, q2, rfl, rfl, rfl, h2, r2⟩ := trodAll_cons r1
  obtain ⟨rfl, rfl, rfl⟩ := trodAll_nil r2
  obtain rfl : args = #[v0, v1, v2] := by cases args; simp_all
  obtain ⟨rfl, rfl⟩ := trodVars_none hV
  obtain ⟨a0, rfl, rfl, rfl, w0⟩ := open_int Tryz.underlying3 (hval 0 3 v0 rfl rfl) h0
  obtain ⟨a1, rfl, rfl, rfl, w1⟩ := open_int Tryz.underlying3 (hval 1 3 v1 rfl rfl) h1
  obtain ⟨a2, rfl, rfl, rfl, w2⟩ := open_int Tryz.underlying3 (hval 2 3 v2 rfl rfl) h2
  clear hA0 hval0
  rw [MakeChecks.laidMetH_plain _ _ _ (by kernel_rfl)] at hL
  refine (walk a0 a1 a2 W w0 w1 w2 (Dec.tabs8 hL)).mono fun e W' ⟨he, bel⟩ => ?_
  subst he
  exact ⟨_, rfl, _, _, _, [], _, [], hW', trodAll_mk1 (shut_bool Tryz.underlying4 _), (trodAll_cons_mk (shut_int Tryz.underlying3 w0) (trodAll_cons_mk (shut_int Tryz.underlying3 w1) (trodAll_cons_mk (shut_int Tryz.underlying3 w2) trodAll_mk0))), rfl, bel.frame _, fun h => by cases h⟩

theorem c0 : (Rows.fnExactStateNewRow.wf (OpenSpec.ofChange Rows.fnExactStateNewSpec)) = true := by kernel_rfl
theorem c3 : (Tryz.f4.params.all (Tryz.checked.prog.readableRec ·)) = true := by kernel_rfl
theorem c4 : (namedTie Tryz.checked.prog Rows.fnExactStateNewRow.named Rows.fnExactStateNewSpec.vars) = true := by kernel_rfl
theorem c5 : ((Rows.fnExactStateNewRow.stops == [])) = true := by kernel_rfl
theorem c7 : ((Rows.fnExactStateNewRow.knobs == [])) = true := by kernel_rfl
theorem c9 : ((Rows.fnExactStateNewRow.inPlace == Tryz.checked.prog.inPlace 4)) = true := by kernel_rfl
theorem c10 : ((Rows.fnExactStateNewRow.unfollowed == Tryz.checked.prog.unfollowed 4)) = true := by kernel_rfl
theorem c11 : ((Rows.fnExactStateNewRow.recurses == Tryz.checked.prog.recurses 4)) = true := by kernel_rfl
theorem c12 : ((Rows.fnExactStateNewRow.named == Tryz.checked.prog.varsNamed 4)) = true := by kernel_rfl
theorem c13 : ((Rows.fnExactStateNewRow.maps == (Tryz.f4.params.toList ++ Rows.fnExactStateNewSpec.plain.varTypes Tryz.checked.prog).any (Tryz.checked.prog.mapsRec ·))) = true := by kernel_rfl
theorem c14 : ((Rows.fnExactStateNewRow.ifaces == (Tryz.f4.params.toList ++ Rows.fnExactStateNewSpec.plain.varTypes Tryz.checked.prog).any (Tryz.checked.prog.ifacesRec ·))) = true := by kernel_rfl
theorem c15 : ((Rows.fnExactStateNewRow.mapsOut == Tryz.checked.prog.mapsAmong Tryz.f4.resultTypes.toList)) = true := by kernel_rfl
theorem c16 : ((Rows.fnExactStateNewRow.loops == (Tryz.f4.params.toList ++ Rows.fnExactStateNewSpec.plain.varTypes Tryz.checked.prog).any (Tryz.checked.prog.loopsFrom ·))) = true := by kernel_rfl
theorem c17 : ((Rows.fnExactStateNewRow.wideKeys == (Tryz.f4.params.toList ++ Rows.fnExactStateNewSpec.plain.varTypes Tryz.checked.prog ++ Tryz.f4.resultTypes.toList).any (Tryz.checked.prog.wideKeysFrom ·))) = true := by kernel_rfl
theorem c18 : (Rows.fnExactStateNewSpec.vars.all (Tryz.checked.prog.varReadable ·)) = true := by kernel_rfl
theorem c19 : (Tryz.f4.resultTypes.all (fun t => Tryz.checked.prog.readableRec t && decide (t < Tryz.checked.prog.types.size))) = true := by kernel_rfl
theorem c20 : ((Rows.fnExactStateNewRow.ifacesOut == Tryz.f4.resultTypes.toList.any (Tryz.checked.prog.ifacesRec ·))) = true := by kernel_rfl
theorem c21 : ((Rows.fnExactStateNewRow.loopsOut == Tryz.f4.resultTypes.toList.any (Tryz.checked.prog.loopsFrom ·))) = true := by kernel_rfl
theorem c23 : (Rows.fnExactStateNewRow.shortTexts.isNone) = true := by kernel_rfl
theorem c28 : ((Rows.fnExactStateNewRow.kinds == (if Rows.fnExactStateNewRow.domain.isEmpty then [] else Tryz.f4.params.toList.map fun t => match Tryz.checked.prog.underlying t with | some (.int k) => some k | _ => none))) = true := by kernel_rfl
theorem c29 : ((Rows.fnExactStateNewRow.pinned == Rows.fnExactStateNewRow.pinnedBy)) = true := by kernel_rfl
theorem c30 : ((Rows.fnExactStateNewRow.veiled == (Tryz.f4.params.toList ++ Rows.fnExactStateNewSpec.plain.varTypes Tryz.checked.prog ++ Tryz.f4.resultTypes.toList).any (Tryz.checked.prog.veiledRec ·))) = true := by kernel_rfl
theorem c31 : (Rows.fnExactStateNewRow.veiledFits Tryz.checked.prog Tryz.f4.params.toList (Tryz.f4.params.toList ++ Rows.fnExactStateNewSpec.plain.varTypes Tryz.checked.prog ++ Tryz.f4.resultTypes.toList)) = true := by kernel_rfl
set_option maxRecDepth 100000 in
theorem closed_ : joinedFacts Tryz.checked.prog 4 Tryz.f4 Rows.fnExactStateNewSpec Rows.fnExactStateNewRow = true := by
  unfold joinedFacts
  exact (Closed.and_ (Closed.and_ (Closed.and_ (Closed.and_ (Closed.and_ (Closed.and_ (Closed.and_ (Closed.and_ (Closed.and_ (Closed.and_ (Closed.and_ (Closed.and_ (Closed.and_ (Closed.and_ (Closed.and_ (Closed.and_ (Closed.and_ (Closed.and_ (Closed.and_ (Closed.and_ (Closed.and_ (Closed.and_ (Closed.and_ (Closed.and_ (Closed.and_ (Closed.and_ (Closed.and_ (Closed.and_ (Closed.and_ (Closed.and_ (Closed.and_ c0 (show (laidOutB Tryz.checked.prog) = true from Closed.laid)) (show (mapsRowed Tryz.checked.prog) = true from Closed.rowed)) c3) c4) c5) (show ((Tryz.checked.prog.stops == [])) = true from Closed.stops)) c7) (show ((Tryz.checked.prog.stopKnobs == [])) = true from Closed.knobs)) c9) c10) c11) c12) c13) c14) c15) c16) c17) c18) c19) c20) c21) (show ((Rows.fnExactStateNewRow.plainKeys == Tryz.checked.prog.plainKeys)) = true from Closed.keys)) c23) (show (Tryz.checked.prog.stopsHeard) = true from Closed.heard)) (show (Tryz.checked.prog.mayEnter) = true from Closed.enter)) (show ((Rows.fnExactStateNewRow.lifted == Tryz.checked.prog.liftsFinal)) = true from Closed.lifts)) (show ((Tryz.checked.prog.make == some Rows.fnExactStateNewRow.make)) = true from Closed.make)) c28) c29) c30) c31)
theorem over : Rows.fnExactStateNewRow.holds Tryz.pinned (OpenSpec.ofChange Rows.fnExactStateNewSpec) :=
  OpenClaim.holds_of_wide 4 Tryz.f4 rfl rfl rfl rfl rfl rfl rfl ⟨rfl, rfl, rfl, rfl, rfl⟩ rfl rfl rfl rfl rfl (by kernel_rfl) Tryz.func4 closed_
    (of_decide_eq_true (by kernel_rfl)) (by unfold Func.isWrapper; first | (rw [if_pos (by decide +kernel)]; kernel_rfl) | (rw [if_neg (by decide +kernel)]; exact ⟨rfl, rfl⟩))
    (fun os started H enc _ => lifted os started H enc)

theorem row : Rows.FnExactStateNewSaid := over

/-- THE CARD: the row, its listed variables tied to the program's text. -/
theorem proved : Rows.FnExactStateNewCardSaid :=
  Claim7.holds_tied_plain_at .later [] [.data, .pinned] true (true, "2dece3fecd563b59f841ff4329c240528b83f1393afa8e5556ae80c3df7dd0ef") true
    row (fun _ h => by cases h) (by kernel_rfl) (fun _ h => by cases h) fnExactStateNew_row_tie rfl ⟨rfl, rfl⟩ (by kernel_rfl) rfl
    (fun f fn hf hfn => by
      obtain rfl : f = 4 := Option.some.inj ((show Tryz.prog.funcNamed "loop.example/g00661/laws.FnExactStateNew" = some 4 by kernel_rfl).symm.trans hf) |>.symm
      obtain rfl : fn = Tryz.f4 := (Option.some.inj (Tryz.func4.symm.trans hfn)).symm
      exact ⟨by kernel_rfl, fun j t ht => by
        rw [Tryz.params4] at ht
        have hm : t ∈ [3] := by simpa using Array.mem_of_getElem? ht
        have hall : ([3].all fun u => !Tryz.prog.wantsStandIn u) = true := by kernel_rfl
        exact (show Tryz.prog.wantsStandIn t = false by simpa using List.all_eq_true.1 hall t hm)⟩)
    (by kernel_rfl)
end Go.Proofs.YtgnpgkkjcloghaaGreatDoor.fnExactStateNew
