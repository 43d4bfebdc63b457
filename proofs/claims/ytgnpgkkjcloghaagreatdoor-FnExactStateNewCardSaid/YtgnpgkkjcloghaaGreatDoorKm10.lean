/- Texts that lay in modules of their own: TrSet, TrP. -/
import Derived.Test.YtgnpgkkjcloghaaGreatDoorKm9
import Derived.Test.YtgnpgkkjcloghaaGreatDoorKm2
import Derived.Maps.OwnOps
import Derived.Maps.OwnSet
import Derived.Maps.Views
import Derived.Test.YtgnpgkkjcloghaaGreatDoorTrM
namespace Go.Proofs.YtgnpgkkjcloghaaGreatDoor.Tr
open Go.RowKit Go.Proofs.YtgnpgkkjcloghaaGreatDoor.Bytes Go.Proofs.YtgnpgkkjcloghaaGreatDoor.Rows_ Go.Proofs.YtgnpgkkjcloghaaGreatDoor.DOk Go.Maps Go.WideMaps
set_option linter.unusedVariables false
abbrev Dat := DataW Unit
theorem ikey : Keyed Tryz.prog 3 := int_keyed Tryz.underlying3
theorem zeroB (w : World) : (zeroValue 4).run Tryz.prog w = .ok (.bool false) w := by kernel_rfl
def kI (z : Int) : Lit := .int .i64 z
def tru : Dat := .lit (.bool true)
def idMap (ids : List Int) : Dat := setOf tru (ids.map kI)
theorem idMap_snoc (ids : List Int) (z : Int) : idMap (ids ++ [z]) = (idMap ids).put (kI z) tru := by unfold idMap; rw [List.map_append]; exact setOf_snoc _ _ _
theorem idMap_lits (ids : List Int) : ∀ x ∈ ids.map kI, WideAt.IsKeyLit x := by intro x hx; simp at hx; obtain ⟨z, _, rfl⟩ := hx; trivial
def OwnB (w : World) (b n : Nat) (D : Dat) : Prop := w.ownsMap Tryz.prog 3 (plainElem Tryz.prog 4) b n D
theorem OwnB.lt {w : World} {b n : Nat} {D : Dat} (h : OwnB w b n D) : b < w.heap.size := World.ownsMap.lt h
theorem OwnB.alloc {w : World} {b n : Nat} {D : Dat} (h : OwnB w b n D) (o : Obj) : OwnB (w.alloc o) b n D := World.ownsMap.alloc h o
theorem len_ids {w : World} {ops : Array Oper} {rest : List Oper} {o : Oper} {a : Act} {Q : Exit → Act → World → Prop} (hg : o.guard = none) (m : Operand) (hop : o.op = Op.call { callee := Callee.builtin Builtin.len, args := #[m], argTypes := #[156] })
    {b n : Nat} {ids : List Int} (hm : a.eval m = .map (some b)) (hown : OwnB w b n (idMap ids)) {S : Nat} (hS : Maps.size (idMap ids) = S)
    (hK : wpList Tryz.prog ops Q rest (a.put o.dst (.int .i64 S)) w) : wpList Tryz.prog ops Q (o :: rest) a w :=
  wpList_len_own _ hg m 156 hop 3 4 Tryz.underlying156 _ b n (idMap ids) hm hown (by rw [hS]; exact hK)
theorem addKey_len : ∀ (xs L : List Lit), (xs.foldl addKey L).length ≤ L.length + xs.length
  | [], L => by simp
  | x :: r, L => by
    rw [List.foldl_cons]
    have := addKey_len r (addKey L x)
    have h2 : (addKey L x).length ≤ L.length + 1 := by unfold addKey; split <;> simp
    simp; omega
theorem any_same (L : List Lit) (x : Lit) (hx : WideAt.IsKeyLit x) : (L.any fun y => y.sameKey x) = true ↔ x ∈ L := by
  rw [List.any_eq_true]
  constructor
  · rintro ⟨y, hy, e⟩
    rw [← WideAt.sameKey_eq e]; exact hy
  · intro h
    refine ⟨x, h, ?_⟩
    cases x <;> first | exact (hx : False).elim | simp [Lit.sameKey]
theorem addKey_nodup : ∀ (xs L : List Lit), (∀ x ∈ xs, WideAt.IsKeyLit x) → ((xs.foldl addKey L).length = L.length + xs.length ↔ xs.Nodup ∧ ∀ x ∈ xs, x ∉ L)
  | [], L, _ => by simp
  | x :: r, L, hk => by
    rw [List.foldl_cons, List.nodup_cons]
    have ih := addKey_nodup r (addKey L x) (fun y hy => hk y (by simp [hy]))
    have hs := any_same L x (hk x (by simp))
    by_cases hx : x ∈ L
    · have e : addKey L x = L := by unfold addKey; rw [if_pos (hs.2 hx)]
      rw [e]
      have := addKey_len r L
      constructor
      · intro h; simp at h; omega
      · intro h; exact absurd hx (h.2 x (by simp))
    · have e : addKey L x = L ++ [x] := by unfold addKey; rw [if_neg (fun h => hx (hs.1 h))]
      rw [e] at ih ⊢
      have el : (L ++ [x]).length + r.length = L.length + (x :: r).length := by simp; omega
      rw [← el, ih]
      constructor
      · rintro ⟨h1, h2⟩
        refine ⟨⟨fun hr => h2 x hr (by simp), h1⟩, fun y hy => ?_⟩
        rcases List.mem_cons.1 hy with rfl | hy
        · exact hx
        · exact fun hl => h2 y hy (by simp [hl])
      · rintro ⟨⟨h1, h2⟩, h3⟩
        refine ⟨h2, fun y hy hl => ?_⟩
        rcases List.mem_append.1 hl with hl | hl
        · exact h3 y (by simp [hy]) hl
        · simp at hl; subst hl; exact h1 hy
theorem kI_inj {a b : Int} (h : kI a = kI b) : a = b := by unfold kI at h; injection h
theorem size_idMap (ids : List Int) : ids.length = Maps.size (idMap ids) ↔ ids.Nodup := by
  unfold idMap
  rw [size_setOf tru _ (idMap_lits ids)]
  have h := addKey_nodup (ids.map kI) [] (idMap_lits ids)
  simp only [List.length_nil, Nat.zero_add, List.length_map] at h
  rw [eq_comm, h]
  constructor
  · rintro ⟨h1, _⟩
    exact List.Pairwise.of_map kI (fun a b hab e => hab (by rw [e])) h1
  · intro hn
    exact ⟨List.Pairwise.map kI (fun a b hab e => hab (kI_inj e)) hn, fun x _ => by simp⟩
theorem grown_new {w a c : World} {b B : Nat} (hb : Below B w a) (hg : a.grownBy c (some b)) (hB : B ≤ b) (hz : B ≤ a.heap.size) : Below B w c :=
  hb.grown hg hz (fun g h => by injection h with h; omega)
set_option maxRecDepth 100000 in
set_option maxHeartbeats 1600000 in
theorem areDistinct_any (A : Option Addr) (n c B : Nat) (zs : List Int) (w : World) (hr : RdI w B A zs) (hl : zs.length = n) (hn : n ≤ 1000000) (hwf : ∀ z ∈ zs, (Lit.int .i64 z).wf = true) (hB : B ≤ w.heap.size) :
    Calls Tryz.prog 62 #[.slice A n c] w fun e w' => e = .returned (.bool (decide zs.Nodup)) ∧ Below w.heap.size w w' := by
  have HR := Lib.hid hr
  have HL := Lib.hid hl
  have HW := Lib.hid hwf
  have hv := Lib.hid (plainElem_bool (H := Unit) Tryz.underlying4 true)
  have hmm := @run_makeMap Tryz.prog
  have hom := Lib.hid (World.ownsMap_made w Tryz.prog 3 (plainElem (H := Unit) Tryz.prog 4))
  clear hr hl hwf
  go_enter Tryz.func62, Tryz.ntmps62
  go_wp2_with fail
  go_loopw [9] (fun i wr => ∃ k : Nat, k ≤ n ∧ i = .int .i64 k ∧ OwnB wr w.heap.size k (idMap (zs.take k)) ∧ Below w.heap.size w wr) (fun i _ => n - (intOf i).toNat)
  case atStart => exact ⟨0, Nat.zero_le _, rfl, hom.out, (Below.refl _ _).alloc (Nat.le_refl _) _⟩
  case round =>
    clear hom hmm
    obtain ⟨k, hk, rfl, ho, hb⟩ := hrel
    have hz : w.heap.size < wr.heap.size := ho.lt
    by_cases hlt : k < n
    · have hlt' : k < zs.length := by rw [HL.out]; exact hlt
      obtain ⟨b, o, rfl, hlB, hc⟩ := (HR.out.below hB hb).at_ hlt'
      have HB := Lib.hid hb
      have HS := Lib.hid (show idMap (zs.take (k + 1)) = (idMap (zs.take k)).put (kI zs[k]) tru by rw [List.take_succ_eq_append_getElem hlt']; exact idMap_snoc _ _)
      have hx := Lib.hid (keyOf_int_mk (k := 3) Tryz.underlying3 (HW.out _ (List.getElem_mem hlt')))
      have HO := Lib.hid ho
      clear hb ho
      generalize zs[k] = x0 at *
      go_wp2_with (at_mapUpdate; refine wpList_mapUpdate_own _ rfl _ _ _ 156 rfl 3 4 ikey Tryz.underlying156 _ w.heap.size k _ rfl HO.out (by unfold maxLen; omega) _ _ _ rfl rfl hx.out _ [] hv.out ?_)
      intro w1 hown1 hgrow1
      have HO1 := Lib.hid (show OwnB w1 w.heap.size (k + 1) (idMap (zs.take (k + 1))) by rw [HS.out]; exact hown1)
      have HB1 := Lib.hid (grown_new HB.out hgrow1 (Nat.le_refl _) (by omega))
      clear hown1 hgrow1
      go_wp2_with fail
      exact ⟨⟨k + 1, by omega, by go_num, HO1.out, HB1.out⟩, by simp [intOf]; omega⟩
    · obtain rfl : n = k := by omega
      rw [List.take_of_length_le (by rw [HL.out]; exact Nat.le_refl _)] at ho
      have HO := Lib.hid ho
      have HB := Lib.hid hb
      have HE := Lib.hid (size_idMap zs)
      have hsz : Maps.size (idMap zs) ≤ n := World.ownsMap.size_le ho
      clear ho hb
      generalize hS : Maps.size (idMap zs) = S at *
      have HSS := Lib.hid hS
      clear hS
      go_wp2_with (at_len; first | refine len_ids rfl _ rfl rfl HO.out HSS.out ?_ | fail)
      go_ret
      refine ⟨ret_bool ?_, HB.out⟩
      rw [Bool.eq_iff_iff]
      simp only [decide_eq_true_eq, beq_iff_eq]
      rw [← HE.out, HL.out]
      constructor <;> intro h <;> omega
end Go.Proofs.YtgnpgkkjcloghaaGreatDoor.Tr
namespace Go.Proofs.YtgnpgkkjcloghaaGreatDoor.Tr
set_option linter.unusedVariables false
open Tree
def ext (d : Bool) (r : RectD) : Int := if d = true then r.h else r.w
def shareD (f n : Int) : Int := if f ≤ n - 2 then f else n - 2
def areaA (d : Bool) (f : Int) (r : RectD) : RectD := if d = true then ⟨r.pane, r.x, r.y, r.w, shareD f r.h⟩ else ⟨r.pane, r.x, r.y, shareD f r.w, r.h⟩
def areaB (d : Bool) (f : Int) (r : RectD) : RectD := if d = true then ⟨r.pane, r.x, r.y + shareD f r.h + 1, r.w, r.h - shareD f r.h - 1⟩ else ⟨r.pane, r.x + shareD f r.w + 1, r.y, r.w - shareD f r.w - 1, r.h⟩
def RB (r : RectD) : Prop := 0 ≤ r.x ∧ 0 ≤ r.y ∧ 1 ≤ r.w ∧ 1 ≤ r.h ∧ r.x + r.w ≤ 120 ∧ r.y + r.h ≤ 120
theorem share_bd {f n : Int} (hf : 1 ≤ f) (hn : 3 ≤ n) : 1 ≤ shareD f n ∧ shareD f n ≤ n - 2 := by unfold shareD; split <;> omega
theorem RB.areaA {d : Bool} {f : Int} {r : RectD} (h : RB r) (hf : 1 ≤ f) (he : 3 ≤ ext d r) : RB (areaA d f r) := by
  obtain ⟨h1, h2, h3, h4, h5, h6⟩ := h
  cases d
  · have := share_bd hf (show 3 ≤ r.w from he); simp only [Tr.areaA, RB, Bool.false_eq_true, if_false]; omega
  · have := share_bd hf (show 3 ≤ r.h from he); simp only [Tr.areaA, RB, if_true]; omega
theorem RB.areaB {d : Bool} {f : Int} {r : RectD} (h : RB r) (hf : 1 ≤ f) (he : 3 ≤ ext d r) : RB (areaB d f r) := by
  obtain ⟨h1, h2, h3, h4, h5, h6⟩ := h
  cases d
  · have := share_bd hf (show 3 ≤ r.w from he); simp only [Tr.areaB, RB, Bool.false_eq_true, if_false]; omega
  · have := share_bd hf (show 3 ≤ r.h from he); simp only [Tr.areaB, RB, if_true]; omega
def placeT : Tree → RectD → Option (List RectD)
  | leaf p, r => some [⟨p, r.x, r.y, r.w, r.h⟩]
  | split d f a b, r =>
    if ext d r < 3 then none
    else match placeT a (areaA d f r), placeT b (areaB d f r) with
      | some x, some y => some (x ++ y)
      | _, _ => none
theorem placeT_split {d : Bool} {f : Int} {a b : Tree} {r : RectD} {zs : List RectD} (h : placeT (split d f a b) r = some zs) :
    3 ≤ ext d r ∧ ∃ x y, placeT a (areaA d f r) = some x ∧ placeT b (areaB d f r) = some y ∧ zs = x ++ y := by
  unfold placeT at h
  by_cases he : ext d r < 3
  · rw [if_pos he] at h; simp at h
  · rw [if_neg he] at h
    rcases ha : placeT a (areaA d f r) with _ | x <;> rcases hb : placeT b (areaB d f r) with _ | y <;> simp [ha, hb] at h
    exact ⟨by omega, x, y, rfl, rfl, h.symm⟩
theorem placeT_panes : ∀ (t : Tree) (r : RectD) (zs : List RectD), placeT t r = some zs → zs.map (·.pane) = t.leaves
  | leaf p, r, zs, h => by simp [placeT] at h; subst h; rfl
  | split d f a b, r, zs, h => by
    obtain ⟨_, x, y, hx, hy, rfl⟩ := placeT_split h
    rw [List.map_append, placeT_panes a _ _ hx, placeT_panes b _ _ hy]; rfl
theorem leaves_le : ∀ t : Tree, t.leaves.length ≤ t.nodes.length
  | leaf p => by simp [leaves, nodes]
  | split d f a b => by have := leaves_le a; have := leaves_le b; simp [leaves, nodes]; omega
def placesD (t : List NodeD) (w h : Int) : Option (List RectD) :=
  match treeD t with
  | none => none
  | some x => if (1 ≤ w ∧ w ≤ 120) ∧ 1 ≤ h ∧ h ≤ 120 then placeT x ⟨0, 0, 0, w, h⟩ else none
def listD (t : List NodeD) (w h : Int) : List RectD := (placesD t w h).getD []
theorem placesD_some {t : List NodeD} {w h : Int} {zs : List RectD} (hp : placesD t w h = some zs) :
    ∃ x, treeD t = some x ∧ placeT x ⟨0, 0, 0, w, h⟩ = some zs ∧ (1 ≤ w ∧ w ≤ 120) ∧ 1 ≤ h ∧ h ≤ 120 := by
  unfold placesD at hp
  rcases ht : treeD t with _ | x <;> rw [ht] at hp
  · simp at hp
  · simp only at hp
    by_cases hc : (1 ≤ w ∧ w ≤ 120) ∧ 1 ≤ h ∧ h ≤ 120
    · rw [if_pos hc] at hp; exact ⟨x, rfl, hp, hc⟩
    · rw [if_neg hc] at hp; simp at hp
theorem placesD_panes {t : List NodeD} {w h : Int} {zs : List RectD} (hp : placesD t w h = some zs) : ∃ x, treeD t = some x ∧ zs.map (·.pane) = x.leaves := by
  obtain ⟨x, ht, hx, _⟩ := placesD_some hp
  exact ⟨x, ht, placeT_panes x _ _ hx⟩
theorem treeD_len {t : List NodeD} {x : Tree} (h : treeD t = some x) : t.length ≤ 31 ∧ x.leaves.length ≤ 31 ∧ 0 < t.length := by
  obtain ⟨rfl, ho, hl, _⟩ := treeD_some.1 h
  have := leaves_le x
  exact ⟨hl, by omega, nodes_pos x⟩
theorem placesD_len {t : List NodeD} {w h : Int} {zs : List RectD} (hp : placesD t w h = some zs) : zs.length ≤ 31 := by
  obtain ⟨x, ht, hm⟩ := placesD_panes hp
  have := (treeD_len ht).2.1
  have e := congrArg List.length hm
  rw [List.length_map] at e; omega
theorem listD_len (t : List NodeD) (w h : Int) : (listD t w h).length ≤ 31 := by
  unfold listD
  rcases hp : placesD t w h with _ | zs
  · simp
  · simpa using placesD_len hp
end Go.Proofs.YtgnpgkkjcloghaaGreatDoor.Tr
