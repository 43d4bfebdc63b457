/- For every screen, mark, list of arguments and int the program's ScrCsi answers as its model in every field, leaves its arguments as they were and owns what it answers; no condition. -/
import Derived.Test.YtgnpgkkjcloghaaGreatRows
import Derived.Test.YtgnpgkkjcloghaaGreatLawScrCsi
import Derived.Test.YtgnpgkkjcloghaaGreatOpI
import Derived.WalkKit
import Derived.ProofKit
import Derived.OpenShut
import Derived.ShutString
import Derived.ChangeOld
import Derived.Below
import Derived.JoinedOf
import Derived.Test.YtgnpgkkjcloghaaGreatClosed
namespace Go.Proofs.YtgnpgkkjcloghaaGreat.fnExactScrCsi
open Go.ChangeShapes Go.WideShapes Go.ChangeAt Go.RowKit
open Go.ChangeMaps (open_string shut_string)
set_option linter.unusedVariables false

theorem laidOut : laidOutB Tryz.prog = true := by kernel_rfl

set_option maxRecDepth 100000 in
set_option maxHeartbeats 3200000 in
theorem lifted (os : Os) (started : os.Started) (H : Type) (enc : TypeId × Value → H) :
    ReturnsInHanded {} Tryz.checked os 3 .any (Rows.fnExactScrCsiSpec.pre6 enc Tryz.prog Tryz.f3 Rows.fnExactScrCsiRow.domain false) (Rows.fnExactScrCsiSpec.post enc Tryz.prog Tryz.f3 false true false false) := by
  refine returnsInHanded_of_change (C := Tryz.checked) own started (by kernel_rfl) Tryz.func3
    (ChangeSpec.witness6 (enc := enc) (C := Tryz.checked) false ⟨#[], #[.agg #[.int .i64 0, .int .i64 0, .int .i64 0, .int .i64 0, .slice none 0 0, .int .i64 0, .int .i64 0, .slice none 0 0, .bool false, .int .i64 0, .int .i64 0, .bool false, .int .i64 0, .int .i64 0, .bool false, .bool false, .bool false, .int .i64 0, .int .i64 0, .bool false, .bool false, .int .i64 0, .int .i64 0, .int .i64 0, .int .i64 0, .bool false, .bool false, .bool false, .slice none 0 0, .int .i64 0, .slice none 0 0], .bool false, .slice none 0 0, .int .i64 0], []⟩ 8 (by kernel_rfl) (by kernel_rfl) (by kernel_rfl) (by kernel_rfl)) ?_
  intro W base args ds gs before hval0 hW hcnd _
  have hval : ∀ (j : Nat) t v, Tryz.f3.params[j]? = some t → args[j]? = some v → Value.okWide Tryz.prog W .any base t v := hval0
  have hW' := hW
  obtain ⟨p, q, hA0, hV, rfl, hfz, hnd⟩ := hW
  have hA : DataW.TrodAll enc Tryz.prog W 0 (fun _ => true) true Tryz.f3.params.toList args.toList ds p := hA0
  rw [Tryz.params3] at hA hval
  obtain ⟨v0, vs0, d0, ds0, p0, q0, hargs, rfl, rfl, h0, r0⟩ := trodAll_cons hA
  obtain ⟨v1, vs1, d1, ds1, p1, q1, rfl, rfl, rfl, h1, r1⟩ := trodAll_cons r0
  obtain ⟨v2, vs2, d2, ds2, p2, q2, rfl, rfl, rfl, h2, r2⟩ := trodAll_cons r1
  obtain ⟨v3, vs3, d3, ds3, p3, q3, rfl, rfl, rfl, h3, r3⟩ := trodAll_cons r2
  obtain ⟨rfl, rfl, rfl⟩ := trodAll_nil r3
  obtain rfl : args = #[v0, v1, v2, v3] := by cases args; simp_all
  obtain ⟨rfl, rfl⟩ := trodVars_none hV
  have k0 := h0
  have lt0 : ∀ x ∈ p0, x.block < W.heap.size := by obtain ⟨m, hm⟩ := k0; exact DataW.trod_lt m _ _ _ hm
  obtain ⟨s, rfl, y1, z1⟩ := Opens.open_Scr (hval 0 30 v0 rfl rfl) h0
  obtain ⟨a1, rfl, rfl, rfl⟩ := open_bool Tryz.underlying4 (hval 1 4 v1 rfl rfl) h1
  have k2 := h2
  have lt2 : ∀ x ∈ p2, x.block < W.heap.size := by obtain ⟨m, hm⟩ := k2; exact DataW.trod_lt m _ _ _ hm
  obtain ⟨A1, n1, c1, zs1, rfl, i1, i2, i3⟩ := Opens.open_Ints (hval 2 27 v2 rfl rfl) h2
  obtain ⟨a3, rfl, rfl, rfl, w3⟩ := open_int Tryz.underlying3 (hval 3 3 v3 rfl rfl) h3
  clear hA0 hval0
  refine (walk s a1 A1 n1 c1 zs1 a3 W y1 z1 i1 i2 i3 w3).mono fun e W' ⟨he, bel⟩ => ?_
  subst he
  exact ⟨_, rfl, _, _, _, [], _, [], hW', trodAll_mk1 (shut_bool Tryz.underlying4 _), (trodAll_cons_mk (Below.trod laidOut (by kernel_rfl) (of_decide_eq_true (by kernel_rfl)) k0 bel lt0) (trodAll_cons_mk (shut_bool Tryz.underlying4 _) (trodAll_cons_mk (Below.trod laidOut (by kernel_rfl) (of_decide_eq_true (by kernel_rfl)) k2 bel lt2) (trodAll_cons_mk (shut_int Tryz.underlying3 w3) trodAll_mk0)))), rfl, bel.frame _, fun h => by cases h⟩

theorem c0 : (Rows.fnExactScrCsiRow.wf (OpenSpec.ofChange Rows.fnExactScrCsiSpec)) = true := by kernel_rfl
theorem c3 : (Tryz.f3.params.all (Tryz.checked.prog.readableRec ·)) = true := by kernel_rfl
theorem c4 : (namedTie Tryz.checked.prog Rows.fnExactScrCsiRow.named Rows.fnExactScrCsiSpec.vars) = true := by kernel_rfl
theorem c5 : ((Rows.fnExactScrCsiRow.stops == [])) = true := by kernel_rfl
theorem c7 : ((Rows.fnExactScrCsiRow.knobs == [])) = true := by kernel_rfl
theorem c9 : ((Rows.fnExactScrCsiRow.inPlace == Tryz.checked.prog.inPlace 3)) = true := by kernel_rfl
theorem c10 : ((Rows.fnExactScrCsiRow.unfollowed == Tryz.checked.prog.unfollowed 3)) = true := by kernel_rfl
theorem c11 : ((Rows.fnExactScrCsiRow.recurses == Tryz.checked.prog.recurses 3)) = true := by kernel_rfl
theorem c12 : ((Rows.fnExactScrCsiRow.named == Tryz.checked.prog.varsNamed 3)) = true := by kernel_rfl
theorem c13 : ((Rows.fnExactScrCsiRow.maps == (Tryz.f3.params.toList ++ Rows.fnExactScrCsiSpec.plain.varTypes Tryz.checked.prog).any (Tryz.checked.prog.mapsRec ·))) = true := by kernel_rfl
theorem c14 : ((Rows.fnExactScrCsiRow.ifaces == (Tryz.f3.params.toList ++ Rows.fnExactScrCsiSpec.plain.varTypes Tryz.checked.prog).any (Tryz.checked.prog.ifacesRec ·))) = true := by kernel_rfl
theorem c15 : ((Rows.fnExactScrCsiRow.mapsOut == Tryz.checked.prog.mapsAmong Tryz.f3.resultTypes.toList)) = true := by kernel_rfl
theorem c16 : ((Rows.fnExactScrCsiRow.loops == (Tryz.f3.params.toList ++ Rows.fnExactScrCsiSpec.plain.varTypes Tryz.checked.prog).any (Tryz.checked.prog.loopsFrom ·))) = true := by kernel_rfl
theorem c17 : ((Rows.fnExactScrCsiRow.wideKeys == (Tryz.f3.params.toList ++ Rows.fnExactScrCsiSpec.plain.varTypes Tryz.checked.prog ++ Tryz.f3.resultTypes.toList).any (Tryz.checked.prog.wideKeysFrom ·))) = true := by kernel_rfl
theorem c18 : (Rows.fnExactScrCsiSpec.vars.all (Tryz.checked.prog.varReadable ·)) = true := by kernel_rfl
theorem c19 : (Tryz.f3.resultTypes.all (fun t => Tryz.checked.prog.readableRec t && decide (t < Tryz.checked.prog.types.size))) = true := by kernel_rfl
theorem c20 : ((Rows.fnExactScrCsiRow.ifacesOut == Tryz.f3.resultTypes.toList.any (Tryz.checked.prog.ifacesRec ·))) = true := by kernel_rfl
theorem c21 : ((Rows.fnExactScrCsiRow.loopsOut == Tryz.f3.resultTypes.toList.any (Tryz.checked.prog.loopsFrom ·))) = true := by kernel_rfl
theorem c23 : (Rows.fnExactScrCsiRow.shortTexts.isNone) = true := by kernel_rfl
theorem c28 : ((Rows.fnExactScrCsiRow.kinds == (if Rows.fnExactScrCsiRow.domain.isEmpty then [] else Tryz.f3.params.toList.map fun t => match Tryz.checked.prog.underlying t with | some (.int k) => some k | _ => none))) = true := by kernel_rfl
theorem c29 : ((Rows.fnExactScrCsiRow.pinned == Rows.fnExactScrCsiRow.pinnedBy)) = true := by kernel_rfl
theorem c30 : ((Rows.fnExactScrCsiRow.veiled == (Tryz.f3.params.toList ++ Rows.fnExactScrCsiSpec.plain.varTypes Tryz.checked.prog ++ Tryz.f3.resultTypes.toList).any (Tryz.checked.prog.veiledRec ·))) = true := by kernel_rfl
theorem c31 : (Rows.fnExactScrCsiRow.veiledFits Tryz.checked.prog Tryz.f3.params.toList (Tryz.f3.params.toList ++ Rows.fnExactScrCsiSpec.plain.varTypes Tryz.checked.prog ++ Tryz.f3.resultTypes.toList)) = true := by kernel_rfl
set_option maxRecDepth 100000 in
theorem closed_ : joinedFacts Tryz.checked.prog 3 Tryz.f3 Rows.fnExactScrCsiSpec Rows.fnExactScrCsiRow = true := by
  unfold joinedFacts
  exact (Closed.and_ (Closed.and_ (Closed.and_ (Closed.and_ (Closed.and_ (Closed.and_ (Closed.and_ (Closed.and_ (Closed.and_ (Closed.and_ (Closed.and_ (Closed.and_ (Closed.and_ (Closed.and_ (Closed.and_ (Closed.and_ (Closed.and_ (Closed.and_ (Closed.and_ (Closed.and_ (Closed.and_ (Closed.and_ (Closed.and_ (Closed.and_ (Closed.and_ (Closed.and_ (Closed.and_ (Closed.and_ (Closed.and_ (Closed.and_ (Closed.and_ c0 (show (laidOutB Tryz.checked.prog) = true from Closed.laid)) (show (mapsRowed Tryz.checked.prog) = true from Closed.rowed)) c3) c4) c5) (show ((Tryz.checked.prog.stops == [])) = true from Closed.stops)) c7) (show ((Tryz.checked.prog.stopKnobs == [])) = true from Closed.knobs)) c9) c10) c11) c12) c13) c14) c15) c16) c17) c18) c19) c20) c21) (show ((Rows.fnExactScrCsiRow.plainKeys == Tryz.checked.prog.plainKeys)) = true from Closed.keys)) c23) (show (Tryz.checked.prog.stopsHeard) = true from Closed.heard)) (show (Tryz.checked.prog.mayEnter) = true from Closed.enter)) (show ((Rows.fnExactScrCsiRow.lifted == Tryz.checked.prog.liftsFinal)) = true from Closed.lifts)) (show ((Tryz.checked.prog.make == some Rows.fnExactScrCsiRow.make)) = true from Closed.make)) c28) c29) c30) c31)
theorem over : Rows.fnExactScrCsiRow.holds Tryz.pinned (OpenSpec.ofChange Rows.fnExactScrCsiSpec) :=
  OpenClaim.holds_of_wide 3 Tryz.f3 rfl rfl rfl rfl rfl rfl rfl ⟨rfl, rfl, rfl, rfl, rfl⟩ rfl rfl rfl rfl rfl (by kernel_rfl) Tryz.func3 closed_
    (of_decide_eq_true (by kernel_rfl)) (by unfold Func.isWrapper; first | (rw [if_pos (by decide +kernel)]; kernel_rfl) | (rw [if_neg (by decide +kernel)]; exact ⟨rfl, rfl⟩))
    (fun os started H enc _ => lifted os started H enc)

/-- ████ THE STATEMENT ████ -/
theorem proved : Rows.FnExactScrCsiSaid := over
end Go.Proofs.YtgnpgkkjcloghaaGreat.fnExactScrCsi
