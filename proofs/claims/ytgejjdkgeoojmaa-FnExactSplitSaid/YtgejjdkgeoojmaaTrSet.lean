/- Sets of ints in a map that the call makes; impl.areDistinct. -/
import Derived.Test.YtgejjdkgeoojmaaHasI
import Derived.Test.YtgejjdkgeoojmaaIntsB
import Derived.Maps.OwnOps
import Derived.Maps.OwnSet
import Derived.Maps.Views
namespace Go.Proofs.Ytgejjdkgeoojmaa.Tr
open Go.RowKit Go.Proofs.Ytgejjdkgeoojmaa.Bytes Go.Proofs.Ytgejjdkgeoojmaa.Rows_ Go.Proofs.Ytgejjdkgeoojmaa.DOk Go.Maps Go.WideMaps
set_option linter.unusedVariables false
abbrev Dat := DataW Unit
theorem ikey : Keyed Try.prog 3 := int_keyed Try.underlying3
def kI (z : Int) : Lit := .int .i64 z
def tru : Dat := .lit (.bool true)
def idMap (ids : List Int) : Dat := setOf tru (ids.map kI)
theorem idMap_snoc (ids : List Int) (z : Int) : idMap (ids ++ [z]) = (idMap ids).put (kI z) tru := by unfold idMap; rw [List.map_append]; exact setOf_snoc _ _ _
theorem idMap_lits (ids : List Int) : ∀ x ∈ ids.map kI, WideAt.IsKeyLit x := by intro x hx; simp at hx; obtain ⟨z, _, rfl⟩ := hx; trivial
def OwnB (w : World) (b n : Nat) (D : Dat) : Prop := w.ownsMap Try.prog 3 (plainElem Try.prog 4) b n D
theorem OwnB.lt {w : World} {b n : Nat} {D : Dat} (h : OwnB w b n D) : b < w.heap.size := World.ownsMap.lt h
theorem OwnB.alloc {w : World} {b n : Nat} {D : Dat} (h : OwnB w b n D) (o : Obj) : OwnB (w.alloc o) b n D := World.ownsMap.alloc h o
theorem len_ids {w : World} {ops : Array Oper} {rest : List Oper} {o : Oper} {a : Act} {Q : Exit → Act → World → Prop} (hg : o.guard = none) (m : Operand) (hop : o.op = Op.call { callee := Callee.builtin Builtin.len, args := #[m], argTypes := #[134] })
    {b n : Nat} {ids : List Int} (hm : a.eval m = .map (some b)) (hown : OwnB w b n (idMap ids)) {S : Nat} (hS : Maps.size (idMap ids) = S)
    (hK : wpList Try.prog ops Q rest (a.put o.dst (.int .i64 S)) w) : wpList Try.prog ops Q (o :: rest) a w :=
  wpList_len_own _ hg m 134 hop 3 4 Try.underlying134 _ b n (idMap ids) hm hown (by rw [hS]; exact hK)
theorem hasI_iff (zs : List Int) (z : Int) : hasI zs z = true ↔ z ∈ zs := by
  unfold hasI; rw [List.any_eq_true]
  exact ⟨fun ⟨x, hx, e⟩ => by have := beq_iff_eq.1 e; subst this; exact hx, fun h => ⟨z, h, by simp⟩⟩
theorem addKey_len : ∀ (xs L : List Lit), (xs.foldl addKey L).length ≤ L.length + xs.length
  | [], L => by simp
  | x :: r, L => by
    rw [List.foldl_cons]
    have := addKey_len r (addKey L x)
    have h2 : (addKey L x).length ≤ L.length + 1 := by unfold addKey; split <;> simp
    simp; omega
theorem any_same (L : List Lit) (x : Lit) (hx : WideAt.IsKeyLit x) : (L.any fun y => y.sameKey x) = true ↔ x ∈ L := by
  rw [List.any_eq_true]
  constructor
  · rintro ⟨y, hy, e⟩
    rw [← WideAt.sameKey_eq e]; exact hy
  · intro h
    refine ⟨x, h, ?_⟩
    cases x <;> first | exact (hx : False).elim | simp [Lit.sameKey]
theorem addKey_nodup : ∀ (xs L : List Lit), (∀ x ∈ xs, WideAt.IsKeyLit x) → ((xs.foldl addKey L).length = L.length + xs.length ↔ xs.Nodup ∧ ∀ x ∈ xs, x ∉ L)
  | [], L, _ => by simp
  | x :: r, L, hk => by
    rw [List.foldl_cons, List.nodup_cons]
    have ih := addKey_nodup r (addKey L x) (fun y hy => hk y (by simp [hy]))
    have hs := any_same L x (hk x (by simp))
    by_cases hx : x ∈ L
    · have e : addKey L x = L := by unfold addKey; rw [if_pos (hs.2 hx)]
      rw [e]
      have := addKey_len r L
      constructor
      · intro h; simp at h; omega
      · intro h; exact absurd hx (h.2 x (by simp))
    · have e : addKey L x = L ++ [x] := by unfold addKey; rw [if_neg (fun h => hx (hs.1 h))]
      rw [e] at ih ⊢
      have el : (L ++ [x]).length + r.length = L.length + (x :: r).length := by simp; omega
      rw [← el, ih]
      constructor
      · rintro ⟨h1, h2⟩
        refine ⟨⟨fun hr => h2 x hr (by simp), h1⟩, fun y hy => ?_⟩
        rcases List.mem_cons.1 hy with rfl | hy
        · exact hx
        · exact fun hl => h2 y hy (by simp [hl])
      · rintro ⟨⟨h1, h2⟩, h3⟩
        refine ⟨h2, fun y hy hl => ?_⟩
        rcases List.mem_append.1 hl with hl | hl
        · exact h3 y (by simp [hy]) hl
        · simp at hl; subst hl; exact h1 hy
theorem kI_inj {a b : Int} (h : kI a = kI b) : a = b := by unfold kI at h; injection h
theorem size_idMap (ids : List Int) : ids.length = Maps.size (idMap ids) ↔ ids.Nodup := by
  unfold idMap
  rw [size_setOf tru _ (idMap_lits ids)]
  have h := addKey_nodup (ids.map kI) [] (idMap_lits ids)
  simp only [List.length_nil, Nat.zero_add, List.length_map] at h
  rw [eq_comm, h]
  constructor
  · rintro ⟨h1, _⟩
    exact List.Pairwise.of_map kI (fun a b hab e => hab (by rw [e])) h1
  · intro hn
    exact ⟨List.Pairwise.map kI (fun a b hab e => hab (kI_inj e)) hn, fun x _ => by simp⟩
theorem grown_new {w a c : World} {b B : Nat} (hb : Below B w a) (hg : a.grownBy c (some b)) (hB : B ≤ b) (hz : B ≤ a.heap.size) : Below B w c :=
  hb.grown hg hz (fun g h => by injection h with h; omega)
set_option maxRecDepth 100000 in
set_option maxHeartbeats 1600000 in
theorem areDistinct_any (A : Option Addr) (n c B : Nat) (zs : List Int) (w : World) (hr : RdI w B A zs) (hl : zs.length = n) (hn : n ≤ 1000000) (hwf : ∀ z ∈ zs, (Lit.int .i64 z).wf = true) (hB : B ≤ w.heap.size) :
    Calls Try.prog 99 #[.slice A n c] w fun e w' => e = .returned (.bool (decide zs.Nodup)) ∧ Below w.heap.size w w' := by
  have HR := Lib.hid hr
  have HL := Lib.hid hl
  have HW := Lib.hid hwf
  have hv := Lib.hid (plainElem_bool (H := Unit) Try.underlying4 true)
  have hmm := @run_makeMap Try.prog
  have hom := Lib.hid (World.ownsMap_made w Try.prog 3 (plainElem (H := Unit) Try.prog 4))
  clear hr hl hwf
  go_enter Try.func99, Try.ntmps99
  go_wp2_with fail
  go_loopw [9] (fun i wr => ∃ k : Nat, k ≤ n ∧ i = .int .i64 k ∧ OwnB wr w.heap.size k (idMap (zs.take k)) ∧ Below w.heap.size w wr) (fun i _ => n - (intOf i).toNat)
  case atStart => exact ⟨0, Nat.zero_le _, rfl, hom.out, (Below.refl _ _).alloc (Nat.le_refl _) _⟩
  case round =>
    clear hom hmm
    obtain ⟨k, hk, rfl, ho, hb⟩ := hrel
    have hz : w.heap.size < wr.heap.size := ho.lt
    by_cases hlt : k < n
    · have hlt' : k < zs.length := by rw [HL.out]; exact hlt
      obtain ⟨b, o, rfl, hlB, hc⟩ := (HR.out.below hB hb).at_ hlt'
      have HB := Lib.hid hb
      have HS := Lib.hid (show idMap (zs.take (k + 1)) = (idMap (zs.take k)).put (kI zs[k]) tru by rw [List.take_succ_eq_append_getElem hlt']; exact idMap_snoc _ _)
      have hx := Lib.hid (keyOf_int_mk (k := 3) Try.underlying3 (HW.out _ (List.getElem_mem hlt')))
      have HO := Lib.hid ho
      clear hb ho
      generalize zs[k] = x0 at *
      go_wp2_with (at_mapUpdate; refine wpList_mapUpdate_own _ rfl _ _ _ 134 rfl 3 4 ikey Try.underlying134 _ w.heap.size k _ rfl HO.out (by unfold maxLen; omega) _ _ _ rfl rfl hx.out _ [] hv.out ?_)
      intro w1 hown1 hgrow1
      have HO1 := Lib.hid (show OwnB w1 w.heap.size (k + 1) (idMap (zs.take (k + 1))) by rw [HS.out]; exact hown1)
      have HB1 := Lib.hid (grown_new HB.out hgrow1 (Nat.le_refl _) (by omega))
      clear hown1 hgrow1
      go_wp2_with fail
      exact ⟨⟨k + 1, by omega, by go_num, HO1.out, HB1.out⟩, by simp [intOf]; omega⟩
    · obtain rfl : n = k := by omega
      rw [List.take_of_length_le (by rw [HL.out]; exact Nat.le_refl _)] at ho
      have HO := Lib.hid ho
      have HB := Lib.hid hb
      have HE := Lib.hid (size_idMap zs)
      have hsz : Maps.size (idMap zs) ≤ n := World.ownsMap.size_le ho
      clear ho hb
      generalize hS : Maps.size (idMap zs) = S at *
      have HSS := Lib.hid hS
      clear hS
      go_wp2_with (at_len; first | refine len_ids rfl _ rfl rfl HO.out HSS.out ?_ | fail)
      go_ret
      refine ⟨ret_bool ?_, HB.out⟩
      rw [Bool.eq_iff_iff]
      simp only [decide_eq_true_eq, beq_iff_eq]
      rw [← HE.out, HL.out]
      constructor <;> intro h <;> omega
end Go.Proofs.Ytgejjdkgeoojmaa.Tr

