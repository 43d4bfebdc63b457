/- FnExactPaneOk: the statement, from the walk of the law; the tables of the library under the row's own condition. -/
import Derived.Test.YtbheimjepikkfaaDoorRows
import Derived.Test.YtbheimjepikkfaaDoorCards
import Derived.Test.YtbheimjepikkfaaDoorTie
import Derived.Test.YtbheimjepikkfaaDoorLawPaneOk
import Derived.Test.YtbheimjepikkfaaDoorKitO
import Derived.Test.YtbheimjepikkfaaDoorDecTab
import Derived.Lay
import Derived.LaidMore
import Derived.Stop.Joined
import Derived.SevenTiedAt
import Derived.WalkKit
import Derived.ProofKit
import Derived.OpenShut
import Derived.ShutString
import Derived.ChangeOld
import Derived.Below
import Derived.JoinedOf
import Derived.Test.YtbheimjepikkfaaDoorClosed
namespace Go.Proofs.YtbheimjepikkfaaDoor.fnExactPaneOk
open Go.ChangeShapes Go.WideShapes Go.ChangeAt Go.RowKit
open Go.ChangeMaps (open_string shut_string)
set_option linter.unusedVariables false

theorem ownKnobF : ownKnob Tryd.prog.godebug = none := by kernel_rfl
theorem laidOut : laidOutB Tryd.prog = true := by kernel_rfl


set_option maxRecDepth 100000 in
theorem lifted (os : Os) (started : os.Started) (H : Type) (enc : TypeId × Value → H) :
    ReturnsInHanded {} Tryd.checked os 4 .any (fun w args => (Rows.fnExactPaneOkSpec.pre enc Tryd.prog Tryd.f4 [] false w args ∧ laidMetH Tryd.prog Rows.fnExactPaneOkRow.laid w) ∧ sizedMet enc Tryd.prog Tryd.f4 (OpenSpec.ofChange Rows.fnExactPaneOkSpec) false w args)
      (Rows.fnExactPaneOkSpec.post enc Tryd.prog Tryd.f4 false true false false) := by
  refine returnsInHanded_of_change_and (C := Tryd.checked) (X := fun w _ => laidMetH Tryd.prog Rows.fnExactPaneOkRow.laid w) (fun _ _ _ hh h => h.of_heap hh) ownKnobF started (by kernel_rfl) Tryd.func4
    (ChangeSpec.witness_shaped (enc := enc) (C := Tryd.checked) (os := os) (X := fun w _ => laidMetH Tryd.prog Rows.fnExactPaneOkRow.laid w) false (World.laidAll Tryd.prog os Rows.fnExactPaneOkRow.laid) #[.agg #[.int .i64 0, .string ByteArray.empty, .string ByteArray.empty, .int .i64 0, .int .i64 0, .int .i64 0, .int .i64 0, .bool false, .slice none 0 0, .slice none 0 0, .int .i64 0, .int .i64 0, .int .i64 0, .int .i64 0, .slice none 0 0, .int .i64 0, .int .i64 0, .slice none 0 0, .bool false, .int .i64 0, .int .i64 0, .bool false, .int .i64 0, .int .i64 0, .bool false, .bool false, .bool false, .int .i64 0, .int .i64 0, .bool false, .bool false, .int .i64 0, .int .i64 0, .int .i64 0, .int .i64 0, .bool false, .bool false, .bool false, .slice none 0 0, .int .i64 0, .slice none 0 0]] 8 (World.laidAll_os _ _ _) (World.shaped_of_ZipB (by kernel_rfl) (by kernel_rfl)) (by kernel_rfl) (by kernel_rfl) (by kernel_rfl) (by rw [MakeChecks.laidMetH_plain _ _ _ (by kernel_rfl)]; exact laidMet_laidAll _ (by kernel_rfl) (by kernel_rfl))) ?_
  intro W base args ds gs before hval0 hW _ _ hL _
  have hval : ∀ (j : Nat) t v, Tryd.f4.params[j]? = some t → args[j]? = some v → Value.okWide Tryd.prog W .any base t v := hval0
  have hW' := hW
  obtain ⟨p, q, hA0, hV, rfl, hfz, hnd⟩ := hW
  have hA : DataW.TrodAll enc Tryd.prog W 0 (fun _ => true) true Tryd.f4.params.toList args.toList ds p := hA0
  rw [Tryd.params4] at hA hval
  obtain ⟨v0, vs0, d0, ds0, p0, q0, hargs, rfl, rfl, h0, r0⟩ := trodAll_cons hA
  obtain ⟨rfl, rfl, rfl⟩ := trodAll_nil r0
  obtain rfl : args = #[v0] := by cases args; simp_all
  obtain ⟨rfl, rfl⟩ := trodVars_none hV
  have k0 := h0
  have lt0 : ∀ x ∈ p0, x.block < W.heap.size := by obtain ⟨m, hm⟩ := k0; exact DataW.trod_lt m _ _ _ hm
  obtain ⟨s, rfl, y1, y2, y3⟩ := Opens.open_Pane (hval 0 52 v0 rfl rfl) h0
  clear hA0 hval0
  rw [MakeChecks.laidMetH_plain _ _ _ (by kernel_rfl)] at hL
  refine (walk s W y1 y2 y3 (Dec.tabs8 hL)).mono fun e W' ⟨he, bel⟩ => ?_
  subst he
  exact ⟨_, rfl, _, _, _, [], _, [], hW', trodAll_mk1 (shut_bool Tryd.underlying4 _), (trodAll_cons_mk (Below.trod laidOut (by kernel_rfl) (of_decide_eq_true (by kernel_rfl)) k0 bel lt0) trodAll_mk0), rfl, bel.frame _, fun h => by cases h⟩

theorem c0 : (Rows.fnExactPaneOkRow.wf (OpenSpec.ofChange Rows.fnExactPaneOkSpec)) = true := by kernel_rfl
theorem c3 : (Tryd.f4.params.all (Tryd.checked.prog.readableRec ·)) = true := by kernel_rfl
theorem c4 : (namedTie Tryd.checked.prog Rows.fnExactPaneOkRow.named Rows.fnExactPaneOkSpec.vars) = true := by kernel_rfl
theorem c5 : ((Rows.fnExactPaneOkRow.stops == [])) = true := by kernel_rfl
theorem c7 : ((Rows.fnExactPaneOkRow.knobs == [])) = true := by kernel_rfl
theorem c9 : ((Rows.fnExactPaneOkRow.inPlace == Tryd.checked.prog.inPlace 4)) = true := by kernel_rfl
theorem c10 : ((Rows.fnExactPaneOkRow.unfollowed == Tryd.checked.prog.unfollowed 4)) = true := by kernel_rfl
theorem c11 : ((Rows.fnExactPaneOkRow.recurses == Tryd.checked.prog.recurses 4)) = true := by kernel_rfl
theorem c12 : ((Rows.fnExactPaneOkRow.named == Tryd.checked.prog.varsNamed 4)) = true := by kernel_rfl
theorem c13 : ((Rows.fnExactPaneOkRow.maps == (Tryd.f4.params.toList ++ Rows.fnExactPaneOkSpec.plain.varTypes Tryd.checked.prog).any (Tryd.checked.prog.mapsRec ·))) = true := by kernel_rfl
theorem c14 : ((Rows.fnExactPaneOkRow.ifaces == (Tryd.f4.params.toList ++ Rows.fnExactPaneOkSpec.plain.varTypes Tryd.checked.prog).any (Tryd.checked.prog.ifacesRec ·))) = true := by kernel_rfl
theorem c15 : ((Rows.fnExactPaneOkRow.mapsOut == Tryd.checked.prog.mapsAmong Tryd.f4.resultTypes.toList)) = true := by kernel_rfl
theorem c16 : ((Rows.fnExactPaneOkRow.loops == (Tryd.f4.params.toList ++ Rows.fnExactPaneOkSpec.plain.varTypes Tryd.checked.prog).any (Tryd.checked.prog.loopsFrom ·))) = true := by kernel_rfl
theorem c17 : ((Rows.fnExactPaneOkRow.wideKeys == (Tryd.f4.params.toList ++ Rows.fnExactPaneOkSpec.plain.varTypes Tryd.checked.prog ++ Tryd.f4.resultTypes.toList).any (Tryd.checked.prog.wideKeysFrom ·))) = true := by kernel_rfl
theorem c18 : (Rows.fnExactPaneOkSpec.vars.all (Tryd.checked.prog.varReadable ·)) = true := by kernel_rfl
theorem c19 : (Tryd.f4.resultTypes.all (fun t => Tryd.checked.prog.readableRec t && decide (t < Tryd.checked.prog.types.size))) = true := by kernel_rfl
theorem c20 : ((Rows.fnExactPaneOkRow.ifacesOut == Tryd.f4.resultTypes.toList.any (Tryd.checked.prog.ifacesRec ·))) = true := by kernel_rfl
theorem c21 : ((Rows.fnExactPaneOkRow.loopsOut == Tryd.f4.resultTypes.toList.any (Tryd.checked.prog.loopsFrom ·))) = true := by kernel_rfl
theorem c23 : (Rows.fnExactPaneOkRow.shortTexts.isNone) = true := by kernel_rfl
theorem c28 : ((Rows.fnExactPaneOkRow.kinds == (if Rows.fnExactPaneOkRow.domain.isEmpty then [] else Tryd.f4.params.toList.map fun t => match Tryd.checked.prog.underlying t with | some (.int k) => some k | _ => none))) = true := by kernel_rfl
theorem c29 : ((Rows.fnExactPaneOkRow.pinned == Rows.fnExactPaneOkRow.pinnedBy)) = true := by kernel_rfl
theorem c30 : ((Rows.fnExactPaneOkRow.veiled == (Tryd.f4.params.toList ++ Rows.fnExactPaneOkSpec.plain.varTypes Tryd.checked.prog ++ Tryd.f4.resultTypes.toList).any (Tryd.checked.prog.veiledRec ·))) = true := by kernel_rfl
theorem c31 : (Rows.fnExactPaneOkRow.veiledFits Tryd.checked.prog Tryd.f4.params.toList (Tryd.f4.params.toList ++ Rows.fnExactPaneOkSpec.plain.varTypes Tryd.checked.prog ++ Tryd.f4.resultTypes.toList)) = true := by kernel_rfl
set_option maxRecDepth 100000 in
theorem closed_ : joinedFacts Tryd.checked.prog 4 Tryd.f4 Rows.fnExactPaneOkSpec Rows.fnExactPaneOkRow = true := by
  unfold joinedFacts
  exact (Closed.and_ (Closed.and_ (Closed.and_ (Closed.and_ (Closed.and_ (Closed.and_ (Closed.and_ (Closed.and_ (Closed.and_ (Closed.and_ (Closed.and_ (Closed.and_ (Closed.and_ (Closed.and_ (Closed.and_ (Closed.and_ (Closed.and_ (Closed.and_ (Closed.and_ (Closed.and_ (Closed.and_ (Closed.and_ (Closed.and_ (Closed.and_ (Closed.and_ (Closed.and_ (Closed.and_ (Closed.and_ (Closed.and_ (Closed.and_ (Closed.and_ c0 (show (laidOutB Tryd.checked.prog) = true from Closed.laid)) (show (mapsRowed Tryd.checked.prog) = true from Closed.rowed)) c3) c4) c5) (show ((Tryd.checked.prog.stops == [])) = true from Closed.stops)) c7) (show ((Tryd.checked.prog.stopKnobs == [])) = true from Closed.knobs)) c9) c10) c11) c12) c13) c14) c15) c16) c17) c18) c19) c20) c21) (show ((Rows.fnExactPaneOkRow.plainKeys == Tryd.checked.prog.plainKeys)) = true from Closed.keys)) c23) (show (Tryd.checked.prog.stopsHeard) = true from Closed.heard)) (show (Tryd.checked.prog.mayEnter) = true from Closed.enter)) (show ((Rows.fnExactPaneOkRow.lifted == Tryd.checked.prog.liftsFinal)) = true from Closed.lifts)) (show ((Tryd.checked.prog.make == some Rows.fnExactPaneOkRow.make)) = true from Closed.make)) c28) c29) c30) c31)
theorem over : Rows.fnExactPaneOkRow.holds Tryd.pinned (OpenSpec.ofChange Rows.fnExactPaneOkSpec) :=
  OpenClaim.holds_of_wide 4 Tryd.f4 rfl rfl rfl rfl rfl rfl rfl ⟨rfl, rfl, rfl, rfl, rfl⟩ rfl rfl rfl rfl rfl (by kernel_rfl) Tryd.func4 closed_
    (of_decide_eq_true (by kernel_rfl)) (by unfold Func.isWrapper; first | (rw [if_pos (by decide +kernel)]; kernel_rfl) | (rw [if_neg (by decide +kernel)]; exact ⟨rfl, rfl⟩))
    (fun os started H enc _ => lifted os started H enc)

theorem row : Rows.FnExactPaneOkSaid := over

/-- THE CARD: the row, its listed variables tied to the program's text. -/
theorem proved : Rows.FnExactPaneOkCardSaid :=
  Claim7.holds_tied_plain_at .later [] [.data, .pinned] true (true, "44c8d199f3c2ca240434bdbc6d4dd7acac76eed7649860a609a40baf5bc4f456") false
    row (fun _ h => by cases h) (by kernel_rfl) (fun _ h => by cases h) fnExactPaneOk_row_tie rfl ⟨rfl, rfl⟩ (by kernel_rfl) rfl
    (fun f fn hf hfn => by
      obtain rfl : f = 4 := Option.some.inj ((show Tryd.prog.funcNamed "loop.example/g00661/laws.FnExactPaneOk" = some 4 by kernel_rfl).symm.trans hf) |>.symm
      obtain rfl : fn = Tryd.f4 := (Option.some.inj (Tryd.func4.symm.trans hfn)).symm
      exact ⟨by kernel_rfl, fun j t ht => by
        rw [Tryd.params4] at ht
        have hm : t ∈ [52] := by simpa using Array.mem_of_getElem? ht
        have hall : ([52].all fun u => !Tryd.prog.wantsStandIn u) = true := by kernel_rfl
        exact (show Tryd.prog.wantsStandIn t = false by simpa using List.all_eq_true.1 hall t hm)⟩)
    (by kernel_rfl)
end Go.Proofs.YtbheimjepikkfaaDoor.fnExactPaneOk
