/- The model's l13Place: the places of the tree at a node. -/
import Derived.Test.YtgejjdkgeoojmaaTrPs
import Derived.Test.YtgejjdkgeoojmaaTrSq
namespace Go.Proofs.Ytgejjdkgeoojmaa.Tr
open Go.RowKit Go.Proofs.Ytgejjdkgeoojmaa.Bytes Go.Proofs.Ytgejjdkgeoojmaa.Rows_ Go.Proofs.Ytgejjdkgeoojmaa.RowK Go.Proofs.Ytgejjdkgeoojmaa.Opq
open Tree
set_option linter.unusedVariables false
attribute [local go_sem ↓] Go.wp_at_zero Go.wp_at_succ
/-- what the model's l13Place leaves: a list of the call's own, and whether all parts had room; the list counts only then -/
def SpP (w : World) (m : Nat) (o : Option (List RectD)) (e : Ending) (w' : World) : Prop :=
  Below w.heap.size w w' ∧ ∃ (A : Option Addr) (n c : Nat) (zs : List RectD), e = .returned (.tuple #[.slice A n c, .bool o.isSome]) ∧ OwnR w' w.heap.size A n c zs ∧ n ≤ m ∧ ∀ ys, o = some ys → zs = ys
theorem nodes_at (pre post : List NodeD) (x : NodeD) (r : List NodeD) : (pre ++ (x :: r) ++ post)[pre.length]? = some x := by simp
theorem endV_tree (pre post : List NodeD) (t : Tree) (ho : t.ok) : endV (pre ++ t.nodes ++ post) pre.length = ((pre.length + t.nodes.length : Nat) : Int) := by
  unfold endV
  rw [List.append_assoc, List.drop_left]
  have := endL_tree t 0 post ho
  simp only [Nat.zero_add, if_true] at this
  rw [this]
theorem placeT_some_eq {d : Bool} {f : Int} {a b : Tree} {r : RectD} (h : placeT (split d f a b) r = match placeT a (areaA d f r), placeT b (areaB d f r) with
        | some x, some y => some (x ++ y)
        | _, _ => none) : (placeT (split d f a b) r).isSome = ((placeT a (areaA d f r)).isSome && (placeT b (areaB d f r)).isSome) ∧ ∀ (xs ys : List RectD), (∀ l, placeT a (areaA d f r) = some l → xs = l) → (∀ l, placeT b (areaB d f r) = some l → ys = l) → ∀ l, placeT (split d f a b) r = some l → xs ++ ys = l := by
  rw [h]
  rcases placeT a (areaA d f r) with _ | x <;> rcases placeT b (areaB d f r) with _ | y
  · exact ⟨rfl, fun _ _ _ _ l hl => by cases hl⟩
  · exact ⟨rfl, fun _ _ _ _ l hl => by cases hl⟩
  · exact ⟨rfl, fun _ _ _ _ l hl => by cases hl⟩
  · exact ⟨rfl, fun xs ys h1 h2 l hl => by injection hl with hl; rw [h1 x rfl, h2 y rfl, hl]⟩
set_option maxRecDepth 100000 in
set_option maxHeartbeats 3200000 in
theorem l13Place_any (A : Option Addr) (n c B : Nat) (ts : List NodeD) (hn : n ≤ 31) : ∀ (t : Tree) (pre post : List NodeD) (r : RectD) (w : World), ts = pre ++ t.nodes ++ post → InN w B A n c ts → t.ok → RB r →
    Calls Try.prog 80 #[.slice A n c, .int .i64 pre.length, .agg #[.int .i64 r.pane, .int .i64 r.x, .int .i64 r.y, .int .i64 r.w, .int .i64 r.h]] w (SpP w t.leaves.length (placeT t r)) := by
  intro t
  induction t with
  | leaf p =>
    intro pre post r w ht hi ho hrb
    have hlen := hi.len
    have hlp : pre.length < ts.length := by rw [ht]; simp [nodes]
    obtain ⟨b, o, rfl, hlt, hc0, hc1, hc2⟩ := hi.rd.at_ hlp
    have hx : ts[pre.length] = ⟨p, false, 0⟩ := by
      have := nodes_at pre post ⟨p, false, 0⟩ []
      rw [show pre ++ [⟨p, false, 0⟩] ++ post = ts by rw [ht]; rfl, List.getElem?_eq_getElem hlp] at this
      injection this
    rw [hx] at hc0 hc1 hc2
    simp only at hc0 hc1 hc2
    have hbw : b < w.heap.size := by have := hi.base; omega
    have hp0 : 0 < p := by have := ho.1; omega
    have HR := Lib.hid (show OwnR _ (w.heap.size + 1 + 1) (some ⟨w.heap.size + 1 + 1, 0, none⟩) 1 1 [⟨p, r.x, r.y, r.w, r.h⟩] from (by have q := one_ownR ((w.alloc (.cells #[.int .i64 p, .int .i64 r.x, .int .i64 r.y, .int .i64 r.w, .int .i64 r.h] 65)).alloc (.cells #[.int .i64 p, .bool false, .int .i64 0] 90)) ⟨p, r.x, r.y, r.w, r.h⟩; rw [World.size_alloc, World.size_alloc] at q; exact q))
    have hln : pre.length < n := by omega
    generalize pre.length = at_ at *
    clear hx ht hi hlen hlp
    go_enter Try.func80, Try.ntmps80
    go_wp2_with fail
    refine bodyPost_ret (v := .tuple #[.slice (some ⟨w.heap.size + 1 + 1, 0, none⟩) 1 1, .bool true]) (by simp [results, Try.results80, go_sem]) rfl ⟨?_, some ⟨w.heap.size + 1 + 1, 0, none⟩, 1, 1, _, rfl, HR.out.more (base' := w.heap.size) (by omega), by simp [leaves], fun ys h => by simp [placeT] at h; exact h⟩
    repeat (first | refine Below.setCell ?_ (by simp <;> omega) _ | refine Below.alloc ?_ (by simp <;> omega) _)
    exact Below.refl _ _
  | split d f ta tb iha ihb =>
    intro pre post r w ht hi ho hrb
    have ho' : 1 ≤ f ∧ f ≤ 120 ∧ ta.ok ∧ tb.ok := ho
    obtain ⟨hf1, hf2, hoA, hoB⟩ := ho'
    have hlen := hi.len
    have hlp : pre.length < ts.length := by rw [ht]; simp [nodes]
    have htn : (split d f ta tb).nodes = ⟨0, d, f⟩ :: (ta.nodes ++ tb.nodes) := rfl
    have hx : ts[pre.length] = ⟨0, d, f⟩ := by
      have := nodes_at pre post ⟨0, d, f⟩ (ta.nodes ++ tb.nodes)
      rw [show pre ++ (⟨0, d, f⟩ :: (ta.nodes ++ tb.nodes)) ++ post = ts by rw [ht, htn], List.getElem?_eq_getElem hlp] at this
      injection this
    have hta : ts = (pre ++ [⟨0, d, f⟩]) ++ ta.nodes ++ (tb.nodes ++ post) := by rw [ht, htn]; simp
    have htb : ts = (pre ++ [⟨0, d, f⟩] ++ ta.nodes) ++ tb.nodes ++ post := by rw [ht, htn]; simp
    obtain ⟨b, o, hA, hlt, hc0, hc1, hc2⟩ := hi.rd.at_ hlp
    rw [hx] at hc0 hc1 hc2
    simp only at hc0 hc1 hc2
    have hbw : b < w.heap.size := by have := hi.base; omega
    have hln : pre.length < n := by omega
    have hla := leaves_le ta
    have HI := Lib.hid hi
    have HRB := Lib.hid hrb
    have hls : (split d f ta tb).leaves.length = ta.leaves.length + tb.leaves.length := by simp [leaves]
    have hlb : ta.nodes.length + tb.nodes.length ≤ 31 := by
      have := congrArg List.length htb
      simp only [List.length_append] at this; omega
    have hlb2 := leaves_le tb
    have hrb2 := hrb
    obtain ⟨g1, g2, g3, g4, g5, g6⟩ := hrb2
    have HE := Lib.hid (fun (W : World) (h : InN W B A n c ts) => show Calls Try.prog 74 #[.slice A n c, .int .i64 ((pre.length : Int) + 1)] W (fun e w' => e = .returned (.int .i64 ((pre.length : Int) + 1 + (ta.nodes.length : Int))) ∧ W = w') from (by
      have q := l13End_any A n c B (pre.length + 1) ts W h (by omega) (by omega)
      have e1 := endV_tree (pre ++ [⟨0, d, f⟩]) (tb.nodes ++ post) ta hoA
      rw [← hta] at e1
      have e2 : (pre ++ [(⟨0, d, f⟩ : NodeD)]).length = pre.length + 1 := by simp
      rw [e2] at e1
      rw [e1] at q
      have e3 : ((pre.length + 1 + ta.nodes.length : Nat) : Int) = (pre.length : Int) + 1 + (ta.nodes.length : Int) := by omega
      have e4 : ((pre.length + 1 : Nat) : Int) = (pre.length : Int) + 1 := by omega
      rw [e3, e4] at q
      exact q))
    by_cases he : ext d r < 3
    · have HN := Lib.hid (show placeT (split d f ta tb) r = none by rw [placeT.eq_2, if_pos he])
      clear iha ihb HE ht hx hta htb hlen hlp hla hlb hlb2
      subst hA
      generalize pre.length = at_ at *
      cases d
      all_goals
        simp only [ext, Bool.false_eq_true, if_true, if_false] at he
        go_enter Try.func80, Try.ntmps80
        go_wp2_with fail
        refine bodyPost_ret (v := .tuple #[.slice none 0 0, .bool false]) (by simp [results, Try.results80, go_sem]) rfl ⟨?_, none, 0, 0, [], by rw [HN.out]; rfl, World.ownsRow_nil _ _ _ _, Nat.zero_le _, fun ys h => by rw [HN.out] at h; cases h⟩
        repeat (first | refine Below.setCell ?_ (by simp <;> omega) _ | refine Below.alloc ?_ (by simp <;> omega) _)
        exact Below.refl _ _
    · have he' : 3 ≤ ext d r := by omega
      have HPL := Lib.hid (show placeT (split d f ta tb) r = match placeT ta (areaA d f r), placeT tb (areaB d f r) with
        | some x, some y => some (x ++ y)
        | _, _ => none by rw [placeT.eq_2, if_neg he]; rfl)
      have HIA := Lib.hid (fun (W : World) (h : InN W B A n c ts) => show Calls Try.prog 80 #[.slice A n c, .int .i64 ((pre.length : Int) + 1), .agg #[.int .i64 (areaA d f r).pane, .int .i64 (areaA d f r).x, .int .i64 (areaA d f r).y, .int .i64 (areaA d f r).w, .int .i64 (areaA d f r).h]] W (SpP W ta.leaves.length (placeT ta (areaA d f r))) from (by
        have q := iha (pre ++ [⟨0, d, f⟩]) (tb.nodes ++ post) (areaA d f r) W hta h hoA (HRB.out.areaA hf1 he')
        have e : (((pre ++ [(⟨0, d, f⟩ : NodeD)]).length : Nat) : Int) = (pre.length : Int) + 1 := by simp
        rw [e] at q
        exact q))
      have HIB := Lib.hid (fun (W : World) (h : InN W B A n c ts) => show Calls Try.prog 80 #[.slice A n c, .int .i64 ((pre.length : Int) + 1 + (ta.nodes.length : Int)), .agg #[.int .i64 (areaB d f r).pane, .int .i64 (areaB d f r).x, .int .i64 (areaB d f r).y, .int .i64 (areaB d f r).w, .int .i64 (areaB d f r).h]] W (SpP W tb.leaves.length (placeT tb (areaB d f r))) from (by
        have q := ihb (pre ++ [⟨0, d, f⟩] ++ ta.nodes) post (areaB d f r) W htb h hoB (HRB.out.areaB hf1 he')
        have e : (((pre ++ [(⟨0, d, f⟩ : NodeD)] ++ ta.nodes).length : Nat) : Int) = (pre.length : Int) + 1 + (ta.nodes.length : Int) := by simp; omega
        rw [e] at q
        exact q))
      have HSM := Lib.hid (placeT_some_eq (d := d) (f := f) (a := ta) (b := tb) (r := r) HPL.out)
      have hsh := share_bd (f := f) (n := ext d r) hf1 he'
      generalize hpa : placeT ta (areaA d f r) = PA at *
      generalize hpb : placeT tb (areaB d f r) = PB at *
      clear iha ihb ht hx hta htb hlen hlp hla hlb2 hpa hpb HPL
      subst hA
      have hat : pre.length ≤ 31 := by omega
      have hal : ta.nodes.length ≤ 31 := by omega
      have hlm : ta.leaves.length ≤ 31 := by have := leaves_le ta; omega
      have hlm2 : tb.leaves.length ≤ 31 := by have := leaves_le tb; omega
      generalize pre.length = at_ at *
      generalize ta.nodes.length = la at *
      cases d
      · have hexd : 3 ≤ r.w := he'
        have hsh2 : 1 ≤ shareD f r.w ∧ shareD f r.w ≤ r.w - 2 := hsh
        have HIA' := Lib.hid (fun (W : World) (h : InN W B (some ⟨b, o, none⟩) n c ts) => show Calls Try.prog 80 #[.slice (some ⟨b, o, none⟩) n c, .int .i64 ((at_ : Int) + 1), .agg #[.int .i64 r.pane, .int .i64 r.x, .int .i64 r.y, .int .i64 (shareD f r.w), .int .i64 r.h]] W (SpP W ta.leaves.length PA) from HIA.out W h)
        have HIB' := Lib.hid (fun (W : World) (h : InN W B (some ⟨b, o, none⟩) n c ts) => show Calls Try.prog 80 #[.slice (some ⟨b, o, none⟩) n c, .int .i64 ((at_ : Int) + 1 + (la : Int)), .agg #[.int .i64 r.pane, .int .i64 (r.x + shareD f r.w + 1), .int .i64 r.y, .int .i64 (r.w - shareD f r.w - 1), .int .i64 r.h]] W (SpP W tb.leaves.length PB) from HIB.out W h)
        have HF := Lib.hid (fun W => l13First_any f r.w W (by omega) (by omega))
        clear HIA HIB hsh he he'
        generalize shareD f r.w = sz at *
        have HBW := Lib.hid (show Below w.heap.size w ((((w.alloc (.cells #[.int .i64 r.pane, .int .i64 r.x, .int .i64 r.y, .int .i64 r.w, .int .i64 r.h] 65)).alloc (.cells #[.int .i64 0, .bool false, .int .i64 f] 90)).alloc (.cells #[.int .i64 r.pane, .int .i64 r.x, .int .i64 r.y, .int .i64 sz, .int .i64 r.h] 65)).alloc (.cells #[.int .i64 r.pane, .int .i64 (r.x + sz + 1), .int .i64 r.y, .int .i64 (r.w - sz - 1), .int .i64 r.h] 65)) by
          repeat (first | refine Below.alloc ?_ (by simp <;> omega) _)
          exact Below.refl _ _)
        have HQ := Lib.hid (show RowB ((((w.alloc (.cells #[.int .i64 r.pane, .int .i64 r.x, .int .i64 r.y, .int .i64 r.w, .int .i64 r.h] 65)).alloc (.cells #[.int .i64 0, .bool false, .int .i64 f] 90)).alloc (.cells #[.int .i64 r.pane, .int .i64 r.x, .int .i64 r.y, .int .i64 sz, .int .i64 r.h] 65)).alloc (.cells #[.int .i64 r.pane, .int .i64 (r.x + sz + 1), .int .i64 r.y, .int .i64 (r.w - sz - 1), .int .i64 r.h] 65)) (w.heap.size + 1 + 1 + 1) #[.int .i64 r.pane, .int .i64 (r.x + sz + 1), .int .i64 r.y, .int .i64 (r.w - sz - 1), .int .i64 r.h] by
          have q := RowB.new (((w.alloc (.cells #[.int .i64 r.pane, .int .i64 r.x, .int .i64 r.y, .int .i64 r.w, .int .i64 r.h] 65)).alloc (.cells #[.int .i64 0, .bool false, .int .i64 f] 90)).alloc (.cells #[.int .i64 r.pane, .int .i64 r.x, .int .i64 r.y, .int .i64 sz, .int .i64 r.h] 65)) #[.int .i64 r.pane, .int .i64 (r.x + sz + 1), .int .i64 r.y, .int .i64 (r.w - sz - 1), .int .i64 r.h] 65
          rw [World.size_alloc, World.size_alloc, World.size_alloc] at q; exact q)
        go_enter Try.func80, Try.ntmps80
        go_wp2_with fail
        refine (HF.out _).mono ?_
        rintro e v0 ⟨rfl, rfl⟩
        go_wp2_with fail
        refine (HIA'.out _ (HI.out.below HBW.out)).mono ?_
        rintro e v1 ⟨hb1, A1, n1, c1, zs1, rfl, ho1, hn1, hs1⟩
        have HB1 := Lib.hid (HBW.out.trans (hb1.mono (by simp; omega)))
        have HQ1 := Lib.hid (HQ.out.below hb1 (by simp))
        have HO1 := Lib.hid ho1
        have HS1 := Lib.hid hs1
        have hq1 := HQ1.out.lt
        have hz1 : w.heap.size + 4 ≤ v1.heap.size := by have := hb1.size; simp at this; omega
        clear hb1 ho1 hs1
        have kb0 : v1.cell? ⟨w.heap.size + 1 + 1 + 1, 0, none⟩ = some (.int .i64 r.pane) := HQ1.out.cell 0
        have kb1 : v1.cell? ⟨w.heap.size + 1 + 1 + 1, 1, none⟩ = some (.int .i64 (r.x + sz + 1)) := HQ1.out.cell 1
        have kb2 : v1.cell? ⟨w.heap.size + 1 + 1 + 1, 2, none⟩ = some (.int .i64 r.y) := HQ1.out.cell 2
        have kb3 : v1.cell? ⟨w.heap.size + 1 + 1 + 1, 3, none⟩ = some (.int .i64 (r.w - sz - 1)) := HQ1.out.cell 3
        have kb4 : v1.cell? ⟨w.heap.size + 1 + 1 + 1, 4, none⟩ = some (.int .i64 r.h) := HQ1.out.cell 4
        have HIN1 := Lib.hid (show InN v1.drew B (some ⟨b, o, none⟩) n c ts from ⟨(HI.out.below HB1.out).rd, HI.out.len, HI.out.cap, HI.out.max, (HI.out.below HB1.out).base⟩)
        go_wp2_with fail
        have hwr : IntKind.i64.wrap ((at_ : Int) + 1) = (at_ : Int) + 1 := IntWalk.i64_in _ (by omega)
        go_region_held3 (fun w' => w'.cell? ⟨w.heap.size + 1 + 1 + 1, 0, none⟩ = some (.int .i64 r.pane) ∧ w'.cell? ⟨w.heap.size + 1 + 1 + 1, 1, none⟩ = some (.int .i64 (r.x + sz + 1)) ∧ w'.cell? ⟨w.heap.size + 1 + 1 + 1, 2, none⟩ = some (.int .i64 r.y) ∧ w'.cell? ⟨w.heap.size + 1 + 1 + 1, 3, none⟩ = some (.int .i64 (r.w - sz - 1)) ∧ w'.cell? ⟨w.heap.size + 1 + 1 + 1, 4, none⟩ = some (.int .i64 r.h)) (first | (with_reducible assumption) | go_keep)
          (first
            | (go_at_call 74; (with_reducible refine (HE.out _ HIN1.out).mono ?_); rintro e v2 ⟨rfl, rfl⟩)
            | (go_at_call 80; (with_reducible refine (HIB'.out _ HIN1.out).mono ?_); rintro e v3 ⟨hb3', A3, n3, c3, zs3, rfl, ho3, hn3, hs3⟩; have HB3 := Lib.hid (show Below v1.heap.size v1 v3 from undrew hb3'); clear hb3'; have HO3 := Lib.hid ho3; have HS3 := Lib.hid hs3; clear ho3 hs3; have HQ3 := Lib.hid (HQ1.out.below HB3.out hq1); have lb0 : v3.cell? ⟨w.heap.size + 1 + 1 + 1, 0, none⟩ = some (.int .i64 r.pane) := HQ3.out.cell 0; have lb1 : v3.cell? ⟨w.heap.size + 1 + 1 + 1, 1, none⟩ = some (.int .i64 (r.x + sz + 1)) := HQ3.out.cell 1; have lb2 : v3.cell? ⟨w.heap.size + 1 + 1 + 1, 2, none⟩ = some (.int .i64 r.y) := HQ3.out.cell 2; have lb3 : v3.cell? ⟨w.heap.size + 1 + 1 + 1, 3, none⟩ = some (.int .i64 (r.w - sz - 1)) := HQ3.out.cell 3; have lb4 : v3.cell? ⟨w.heap.size + 1 + 1 + 1, 4, none⟩ = some (.int .i64 r.h) := HQ3.out.cell 4))
        clear hwr
        have HO13 := Lib.hid (HO1.out.below (Nat.le_refl _) HB3.out)
        have HBT := Lib.hid (HB1.out.trans (HB3.out.mono (by omega)))
        have hz3 := HB3.out.size
        have HO13b := Lib.hid (HO13.out.more (base' := w.heap.size) (by simp; omega))
        have HOne := Lib.hid (okPartR HO3.out (by omega))
        have HR3 := Lib.hid (show RdK 5 v3 v3.heap.size A3 (zs3.map rectR) from HO3.out.rd)
        have HL3 := Lib.hid (show (zs3.map rectR).length = n3 by rw [List.length_map]; exact HO3.out.len)
        have HNil := Lib.hid (HO3.out.nil_)
        have hbs : w.heap.size ≤ v3.heap.size := by omega
        cases hPA : PA.isSome <;> cases hPB : PB.isSome <;> have HPA := Lib.hid hPA <;> have HPB := Lib.hid hPB <;> clear hPA hPB
        all_goals
          go_wp2_with (at_builtin; refine append_rowsT Try.underlying58 infoR rfl (by decide) (by decide) rfl _ _ rfl rfl rfl HO13b.out HR3.out (lenR zs3) HOne.out.one HNil.out HL3.out (by omega) (by omega) hbs ?_)
          intro A4 c4 w4 ho4 hb4 hg4
          have HO4 := Lib.hid (show OwnR w4 w.heap.size A4 (n1 + n3) c4 (zs1 ++ zs3) by unfold OwnR; rw [List.map_append, List.flatten_append]; exact ho4)
          have HB4 := Lib.hid (HBT.out.trans hb4)
          clear ho4 hb4 hg4
          go_wp2_with fail
          refine bodyPost_ret (v := .tuple #[.slice A4 (n1 + n3) c4, .bool (PA.isSome && PB.isSome)]) (by simp [results, Try.results80, go_sem, HPA.out, HPB.out]) rfl ⟨HB4.out, A4, n1 + n3, c4, zs1 ++ zs3, by rw [HSM.out.1], HO4.out, by rw [hls]; omega, fun ys h => HSM.out.2 zs1 zs3 HS1.out HS3.out ys h⟩

      · have hexd : 3 ≤ r.h := he'
        have hsh2 : 1 ≤ shareD f r.h ∧ shareD f r.h ≤ r.h - 2 := hsh
        have HIA' := Lib.hid (fun (W : World) (h : InN W B (some ⟨b, o, none⟩) n c ts) => show Calls Try.prog 80 #[.slice (some ⟨b, o, none⟩) n c, .int .i64 ((at_ : Int) + 1), .agg #[.int .i64 r.pane, .int .i64 r.x, .int .i64 r.y, .int .i64 r.w, .int .i64 (shareD f r.h)]] W (SpP W ta.leaves.length PA) from HIA.out W h)
        have HIB' := Lib.hid (fun (W : World) (h : InN W B (some ⟨b, o, none⟩) n c ts) => show Calls Try.prog 80 #[.slice (some ⟨b, o, none⟩) n c, .int .i64 ((at_ : Int) + 1 + (la : Int)), .agg #[.int .i64 r.pane, .int .i64 r.x, .int .i64 (r.y + shareD f r.h + 1), .int .i64 r.w, .int .i64 (r.h - shareD f r.h - 1)]] W (SpP W tb.leaves.length PB) from HIB.out W h)
        have HF := Lib.hid (fun W => l13First_any f r.h W (by omega) (by omega))
        clear HIA HIB hsh he he'
        generalize shareD f r.h = sz at *
        have HBW := Lib.hid (show Below w.heap.size w ((((w.alloc (.cells #[.int .i64 r.pane, .int .i64 r.x, .int .i64 r.y, .int .i64 r.w, .int .i64 r.h] 65)).alloc (.cells #[.int .i64 0, .bool true, .int .i64 f] 90)).alloc (.cells #[.int .i64 r.pane, .int .i64 r.x, .int .i64 r.y, .int .i64 r.w, .int .i64 sz] 65)).alloc (.cells #[.int .i64 r.pane, .int .i64 r.x, .int .i64 (r.y + sz + 1), .int .i64 r.w, .int .i64 (r.h - sz - 1)] 65)) by
          repeat (first | refine Below.alloc ?_ (by simp <;> omega) _)
          exact Below.refl _ _)
        have HQ := Lib.hid (show RowB ((((w.alloc (.cells #[.int .i64 r.pane, .int .i64 r.x, .int .i64 r.y, .int .i64 r.w, .int .i64 r.h] 65)).alloc (.cells #[.int .i64 0, .bool true, .int .i64 f] 90)).alloc (.cells #[.int .i64 r.pane, .int .i64 r.x, .int .i64 r.y, .int .i64 r.w, .int .i64 sz] 65)).alloc (.cells #[.int .i64 r.pane, .int .i64 r.x, .int .i64 (r.y + sz + 1), .int .i64 r.w, .int .i64 (r.h - sz - 1)] 65)) (w.heap.size + 1 + 1 + 1) #[.int .i64 r.pane, .int .i64 r.x, .int .i64 (r.y + sz + 1), .int .i64 r.w, .int .i64 (r.h - sz - 1)] by
          have q := RowB.new (((w.alloc (.cells #[.int .i64 r.pane, .int .i64 r.x, .int .i64 r.y, .int .i64 r.w, .int .i64 r.h] 65)).alloc (.cells #[.int .i64 0, .bool true, .int .i64 f] 90)).alloc (.cells #[.int .i64 r.pane, .int .i64 r.x, .int .i64 r.y, .int .i64 r.w, .int .i64 sz] 65)) #[.int .i64 r.pane, .int .i64 r.x, .int .i64 (r.y + sz + 1), .int .i64 r.w, .int .i64 (r.h - sz - 1)] 65
          rw [World.size_alloc, World.size_alloc, World.size_alloc] at q; exact q)
        go_enter Try.func80, Try.ntmps80
        go_wp2_with fail
        refine (HF.out _).mono ?_
        rintro e v0 ⟨rfl, rfl⟩
        go_wp2_with fail
        refine (HIA'.out _ (HI.out.below HBW.out)).mono ?_
        rintro e v1 ⟨hb1, A1, n1, c1, zs1, rfl, ho1, hn1, hs1⟩
        have HB1 := Lib.hid (HBW.out.trans (hb1.mono (by simp; omega)))
        have HQ1 := Lib.hid (HQ.out.below hb1 (by simp))
        have HO1 := Lib.hid ho1
        have HS1 := Lib.hid hs1
        have hq1 := HQ1.out.lt
        have hz1 : w.heap.size + 4 ≤ v1.heap.size := by have := hb1.size; simp at this; omega
        clear hb1 ho1 hs1
        have kb0 : v1.cell? ⟨w.heap.size + 1 + 1 + 1, 0, none⟩ = some (.int .i64 r.pane) := HQ1.out.cell 0
        have kb1 : v1.cell? ⟨w.heap.size + 1 + 1 + 1, 1, none⟩ = some (.int .i64 r.x) := HQ1.out.cell 1
        have kb2 : v1.cell? ⟨w.heap.size + 1 + 1 + 1, 2, none⟩ = some (.int .i64 (r.y + sz + 1)) := HQ1.out.cell 2
        have kb3 : v1.cell? ⟨w.heap.size + 1 + 1 + 1, 3, none⟩ = some (.int .i64 r.w) := HQ1.out.cell 3
        have kb4 : v1.cell? ⟨w.heap.size + 1 + 1 + 1, 4, none⟩ = some (.int .i64 (r.h - sz - 1)) := HQ1.out.cell 4
        have HIN1 := Lib.hid (show InN v1.drew B (some ⟨b, o, none⟩) n c ts from ⟨(HI.out.below HB1.out).rd, HI.out.len, HI.out.cap, HI.out.max, (HI.out.below HB1.out).base⟩)
        go_wp2_with fail
        have hwr : IntKind.i64.wrap ((at_ : Int) + 1) = (at_ : Int) + 1 := IntWalk.i64_in _ (by omega)
        go_region_held3 (fun w' => w'.cell? ⟨w.heap.size + 1 + 1 + 1, 0, none⟩ = some (.int .i64 r.pane) ∧ w'.cell? ⟨w.heap.size + 1 + 1 + 1, 1, none⟩ = some (.int .i64 r.x) ∧ w'.cell? ⟨w.heap.size + 1 + 1 + 1, 2, none⟩ = some (.int .i64 (r.y + sz + 1)) ∧ w'.cell? ⟨w.heap.size + 1 + 1 + 1, 3, none⟩ = some (.int .i64 r.w) ∧ w'.cell? ⟨w.heap.size + 1 + 1 + 1, 4, none⟩ = some (.int .i64 (r.h - sz - 1))) (first | (with_reducible assumption) | go_keep)
          (first
            | (go_at_call 74; (with_reducible refine (HE.out _ HIN1.out).mono ?_); rintro e v2 ⟨rfl, rfl⟩)
            | (go_at_call 80; (with_reducible refine (HIB'.out _ HIN1.out).mono ?_); rintro e v3 ⟨hb3', A3, n3, c3, zs3, rfl, ho3, hn3, hs3⟩; have HB3 := Lib.hid (show Below v1.heap.size v1 v3 from undrew hb3'); clear hb3'; have HO3 := Lib.hid ho3; have HS3 := Lib.hid hs3; clear ho3 hs3; have HQ3 := Lib.hid (HQ1.out.below HB3.out hq1); have lb0 : v3.cell? ⟨w.heap.size + 1 + 1 + 1, 0, none⟩ = some (.int .i64 r.pane) := HQ3.out.cell 0; have lb1 : v3.cell? ⟨w.heap.size + 1 + 1 + 1, 1, none⟩ = some (.int .i64 r.x) := HQ3.out.cell 1; have lb2 : v3.cell? ⟨w.heap.size + 1 + 1 + 1, 2, none⟩ = some (.int .i64 (r.y + sz + 1)) := HQ3.out.cell 2; have lb3 : v3.cell? ⟨w.heap.size + 1 + 1 + 1, 3, none⟩ = some (.int .i64 r.w) := HQ3.out.cell 3; have lb4 : v3.cell? ⟨w.heap.size + 1 + 1 + 1, 4, none⟩ = some (.int .i64 (r.h - sz - 1)) := HQ3.out.cell 4))
        clear hwr
        have HO13 := Lib.hid (HO1.out.below (Nat.le_refl _) HB3.out)
        have HBT := Lib.hid (HB1.out.trans (HB3.out.mono (by omega)))
        have hz3 := HB3.out.size
        have HO13b := Lib.hid (HO13.out.more (base' := w.heap.size) (by simp; omega))
        have HOne := Lib.hid (okPartR HO3.out (by omega))
        have HR3 := Lib.hid (show RdK 5 v3 v3.heap.size A3 (zs3.map rectR) from HO3.out.rd)
        have HL3 := Lib.hid (show (zs3.map rectR).length = n3 by rw [List.length_map]; exact HO3.out.len)
        have HNil := Lib.hid (HO3.out.nil_)
        have hbs : w.heap.size ≤ v3.heap.size := by omega
        cases hPA : PA.isSome <;> cases hPB : PB.isSome <;> have HPA := Lib.hid hPA <;> have HPB := Lib.hid hPB <;> clear hPA hPB
        all_goals
          go_wp2_with (at_builtin; refine append_rowsT Try.underlying58 infoR rfl (by decide) (by decide) rfl _ _ rfl rfl rfl HO13b.out HR3.out (lenR zs3) HOne.out.one HNil.out HL3.out (by omega) (by omega) hbs ?_)
          intro A4 c4 w4 ho4 hb4 hg4
          have HO4 := Lib.hid (show OwnR w4 w.heap.size A4 (n1 + n3) c4 (zs1 ++ zs3) by unfold OwnR; rw [List.map_append, List.flatten_append]; exact ho4)
          have HB4 := Lib.hid (HBT.out.trans hb4)
          clear ho4 hb4 hg4
          go_wp2_with fail
          refine bodyPost_ret (v := .tuple #[.slice A4 (n1 + n3) c4, .bool (PA.isSome && PB.isSome)]) (by simp [results, Try.results80, go_sem, HPA.out, HPB.out]) rfl ⟨HB4.out, A4, n1 + n3, c4, zs1 ++ zs3, by rw [HSM.out.1], HO4.out, by rw [hls]; omega, fun ys h => HSM.out.2 zs1 zs3 HS1.out HS3.out ys h⟩

end Go.Proofs.Ytgejjdkgeoojmaa.Tr

