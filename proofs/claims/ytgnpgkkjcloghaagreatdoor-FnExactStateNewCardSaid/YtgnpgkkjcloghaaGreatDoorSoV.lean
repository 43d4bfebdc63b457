/- The map that says of each pane and each window whether it was visited: as data, and its operations. -/
import Derived.Test.YtgnpgkkjcloghaaGreatDoorKm10
import Derived.Maps.RangeWalk
import Derived.DeepKeys4
import Derived.ChangeKeysEq
namespace Go.Proofs.YtgnpgkkjcloghaaGreatDoor.St
open Go.RowKit Go.Proofs.YtgnpgkkjcloghaaGreatDoor.Bytes Go.Proofs.YtgnpgkkjcloghaaGreatDoor.Rows_ Go.Proofs.YtgnpgkkjcloghaaGreatDoor.DOk Go.Maps Go.WideMaps
set_option linter.unusedVariables false
theorem vLaid : laidOutB Tryz.prog = true := by kernel_rfl
theorem vRow : (130 : TypeId) < Tryz.prog.types.size := of_decide_eq_true (by kernel_rfl)
theorem vKey : Keyed Tryz.prog 130 := Keyed.of_law (deep_law_laid vLaid (m := 2) (by omega) vRow (by kernel_rfl) (by kernel_rfl))
def entV (e : Bool × Int) : Value := .agg #[.bool e.1, .int .i64 e.2]
def kE (e : Bool × Int) : Lit := .string (keyBytes [.bool e.1, .int .i64 e.2])
def wfE (e : Bool × Int) : Prop := (Lit.int .i64 e.2).wf = true
theorem keyE (e : Bool × Int) (h : wfE e) : keyOf Tryz.prog 130 (entV e) = some (kE e) := by
  have h1 : Tryz.prog.keyType 130 = true := by kernel_rfl
  have h2 : (entV e).formed Tryz.prog 130 = true := by
    obtain ⟨b, z⟩ := e
    simp [entV, Value.formed, Tryz.underlying130, show Tryz.prog.cellsOf 130 = 2 from by kernel_rfl]
  have hb : ∀ d b, Tryz.prog.keyLits (d + 1) 4 [.bool b] = some [.bool b] := fun d b => by simp [Program.keyLits, Tryz.underlying4]
  have hi : ∀ d z, (Lit.int .i64 z).wf = true → Tryz.prog.keyLits (d + 1) 3 [.int .i64 z] = some [.int .i64 z] := fun d z hz => by simp [Program.keyLits, Tryz.underlying3, hz]
  have h3 : Tryz.prog.keyLits (Tryz.prog.types.size + 1) 130 (entV e).cells.toList = some [.bool e.1, .int .i64 e.2] := by
    obtain ⟨d, hd⟩ : ∃ d, Tryz.prog.types.size = d + 1 := Nat.exists_eq_succ_of_ne_zero (by intro h; have h2 := vRow; rw [h] at h2; exact absurd h2 (Nat.not_lt_zero _))
    rw [hd]
    obtain ⟨b, z⟩ := e
    have hz : (Lit.int .i64 z).wf = true := h
    have c1 : Tryz.prog.cellsOf 130 = 2 := by kernel_rfl
    have c2 : Tryz.prog.cellsOf 4 = 1 := by kernel_rfl
    have c3 : Tryz.prog.cellsOf 3 = 1 := by kernel_rfl
    unfold Program.keyLits
    simp [Tryz.underlying130, entV, Value.cells, c1, c2, c3, hb, hi _ _ hz]
  unfold keyOf
  rw [Tryz.underlying130]
  simp only [h1, h2, h3, Bool.and_self, if_true, Option.map_some]
  rfl
theorem kE_inj {a b : Bool × Int} (ha : wfE a) (hb : wfE b) (h : kE a = kE b) : a = b := by
  have := vKey.inj (keyE a ha) (h ▸ keyE b hb)
  obtain ⟨x, y⟩ := a; obtain ⟨u, v⟩ := b
  simp [entV] at this
  rw [this.1, this.2]
theorem kE_lit {a : Bool × Int} (ha : wfE a) : WideAt.IsKeyLit (kE a) := vKey.key (keyE a ha)
abbrev VDat := DataW Unit
def litB (b : Bool) : VDat := .lit (.bool b)
def VMap (w : World) (b n : Nat) (D : VDat) : Prop := w.ownsMap Tryz.prog 130 (plainElem Tryz.prog 4) b n D
/-- D has the keys K, and says of each whether it is in S. -/
structure VisD (D : VDat) (K S : List (Bool × Int)) : Prop where
  m : IsMap D
  h : ∀ kl, Maps.has D kl = true ↔ ∃ e ∈ K, kl = kE e
  v : ∀ e ∈ K, D.atKey (kE e) (litB false) = litB (decide (e ∈ S))
theorem VisD.nil : VisD (.map []) [] [] := ⟨isMap_empty, fun kl => by simp [Maps.has], fun e he => by simp at he⟩
theorem VisD.add {D : VDat} {K : List (Bool × Int)} (h : VisD D K []) {e : Bool × Int} (he : wfE e) (hK : ∀ x ∈ K, wfE x) : VisD (D.put (kE e) (litB false)) (K ++ [e]) [] := by
  refine ⟨h.m.put _ _, fun kl => ?_, fun x hx => ?_⟩
  · by_cases hk : kl = kE e
    · subst hk
      rw [has_put_same h.m (kE_lit he)]
      exact ⟨fun _ => ⟨e, by simp, rfl⟩, fun _ => rfl⟩
    · rw [has_put_other hk, h.h]
      constructor
      · rintro ⟨x, hx, rfl⟩; exact ⟨x, by simp [hx], rfl⟩
      · rintro ⟨x, hx, rfl⟩
        rcases List.mem_append.1 hx with hx | hx
        · exact ⟨x, hx, rfl⟩
        · simp at hx; subst hx; exact absurd rfl hk
  · by_cases hk : kE x = kE e
    · rw [hk, atKey_put_same h.m (kE_lit he)]; rfl
    · rw [atKey_put_other hk]
      rcases List.mem_append.1 hx with hx | hx
      · exact h.v x hx
      · simp at hx; subst hx; exact absurd rfl hk
theorem VisD.visit {D : VDat} {K S : List (Bool × Int)} (h : VisD D K S) {e : Bool × Int} (hK : ∀ x ∈ K, wfE x) (he : e ∈ K) : VisD (D.put (kE e) (litB true)) K (S ++ [e]) := by
  have hw := hK e he
  refine ⟨h.m.put _ _, fun kl => ?_, fun x hx => ?_⟩
  · by_cases hk : kl = kE e
    · subst hk
      rw [has_put_same h.m (kE_lit hw)]
      exact ⟨fun _ => ⟨e, he, rfl⟩, fun _ => rfl⟩
    · rw [has_put_other hk, h.h]
  · by_cases hk : x = e
    · subst hk
      rw [atKey_put_same h.m (kE_lit hw)]
      simp
    · rw [atKey_put_other (fun c => hk (kE_inj (hK x hx) hw c)), h.v x hx]
      simp [hk]
theorem plainElem_bool_inv {P : Program} {e : TypeId} (he : P.underlying e = some .bool) {v : Value} {z : VDat × List MemPlace} (h : plainElem P e v = some z) : ∃ a, v = .bool a ∧ z = (.lit (.bool a), []) := by
  unfold plainElem at h
  rw [he] at h
  cases v <;> simp at h
  exact ⟨_, rfl, h.symm⟩
section
variable {ops : Array Oper} {rest : List Oper} {o : Oper} {a : Act} {Q : Exit → Act → World → Prop}
set_option maxRecDepth 100000 in
set_option maxHeartbeats 1600000 in
/-- 'visited, exists := v[e]' -/
theorem look_vis (w : World) (hg : o.guard = none) (m x : Operand) (t : TypeId) (hop : o.op = Op.lookup t m x true) (ht : Tryz.prog.underlying t = some (.map 130 4))
    (b n : Nat) (D : VDat) (K S : List (Bool × Int)) (hK : ∀ x ∈ K, wfE x) (hm : a.eval m = .map (some b)) (hown : VMap w b n D) (hD : VisD D K S) (e : Bool × Int) (he : wfE e) (hx : a.eval x = entV e)
    (hQ : ∀ c : Bool, (e ∈ K → c = decide (e ∈ S)) → wpList Tryz.prog ops Q rest (a.put o.dst (.tuple #[.bool c, .bool (decide (e ∈ K))])) w) :
    wpList Tryz.prog ops Q (o :: rest) a w := by
  have hh : Maps.has D (kE e) = decide (e ∈ K) := by
    rw [Bool.eq_iff_iff, hD.h, decide_eq_true_eq]
    constructor
    · rintro ⟨y, hy, h⟩; rw [kE_inj he (hK y hy) h]; exact hy
    · intro h; exact ⟨e, h, rfl⟩
  refine wpList_lookup_own_ok w hg m x t hop 130 4 vKey ht (plainElem Tryz.prog 4) (Tr.zeroB w) (litB false) [] (plainElem_bool Tryz.underlying4 false) b n D hm hown (entV e) (kE e) hx (keyE e he) (fun v ps hv => ?_)
  obtain ⟨c, rfl, hc⟩ := plainElem_bool_inv Tryz.underlying4 hv
  rw [hh]
  refine hQ c (fun hin => ?_)
  have h1 := congrArg Prod.fst hc
  rw [hD.v e hin] at h1
  injection h1 with h1; injection h1 with h1; exact h1.symm
end
end Go.Proofs.YtgnpgkkjcloghaaGreatDoor.St

