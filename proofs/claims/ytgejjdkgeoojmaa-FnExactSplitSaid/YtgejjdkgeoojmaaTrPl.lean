/- impl.placesIn: the places of a tree's leaves in an area. -/
import Derived.Test.YtgejjdkgeoojmaaTrAr
import Derived.Test.YtgejjdkgeoojmaaTrCd
import Derived.Test.YtgejjdkgeoojmaaTrOf
import Derived.Deep.RegionHeld3
namespace Go.Proofs.Ytgejjdkgeoojmaa.Tr
open Go.RowKit Go.Proofs.Ytgejjdkgeoojmaa.Bytes Go.Proofs.Ytgejjdkgeoojmaa.Rows_ Go.Proofs.Ytgejjdkgeoojmaa.RowK Go.Proofs.Ytgejjdkgeoojmaa.Opq
open Tree
set_option linter.unusedVariables false
attribute [local go_sem ↓] Go.wp_at_zero Go.wp_at_succ
/-- what placesIn leaves -/
def PlP (w : World) (o : Option (List RectD)) (e : Ending) (w' : World) : Prop :=
  Below w.heap.size w w' ∧ match o with
  | none => e = .returned (.tuple #[.slice none 0 0, .bool false])
  | some zs => ∃ A c, e = .returned (.tuple #[.slice A zs.length c, .bool true]) ∧ OwnR w' w.heap.size A zs.length c zs
theorem PlP.no {w w' : World} {o : Option (List RectD)} (ho : o = none) (hb : Below w.heap.size w w') : PlP w o (.returned (.tuple #[.slice none 0 0, .bool false])) w' := by subst ho; exact ⟨hb, rfl⟩
theorem ta_leaf (p : Int) (w : World) : (Instr.typeAssert (.iface 120 (.agg #[.int .i64 p])) 95 120 true).run Try.prog w = .ok (.tuple #[.agg #[.int .i64 p], .bool true]) w := by kernel_rfl
theorem ta_leaf_no (g : Nat) (w : World) : (Instr.typeAssert (.iface 121 (.pointer (some ⟨g, 0, none⟩))) 95 120 true).run Try.prog w = .ok (.tuple #[.agg #[.int .i64 0], .bool false]) w := by kernel_rfl
theorem ta_ptr (g : Nat) (w : World) : (Instr.typeAssert (.iface 121 (.pointer (some ⟨g, 0, none⟩))) 95 121 true).run Try.prog w = .ok (.tuple #[.pointer (some ⟨g, 0, none⟩), .bool true]) w := by kernel_rfl
theorem OwnR.nil_ {w : World} {base : Nat} {A : Option Addr} {n c : Nat} {cs : List RectD} (h : OwnR w base A n c cs) : A = none → n = 0 ∧ c = 0 := own_noneK h
theorem one_ownR (w : World) (z : RectD) : OwnR (w.alloc (.cells #[.int .i64 z.pane, .int .i64 z.x, .int .i64 z.y, .int .i64 z.w, .int .i64 z.h] 65)) w.heap.size (some ⟨w.heap.size, 0, none⟩) 1 1 [z] :=
  ⟨rfl, .inr ⟨w.heap.size, 1, _, rfl, Nat.le_refl _, heap_alloc_new _ _, Nat.le_refl _, by unfold maxLen; omega, rfl, rfl⟩⟩
theorem okPartR {w : World} {base : Nat} {A : Option Addr} {n c : Nat} {cs : List RectD} (h : OwnR w base A n c cs) (hn : n ≤ 1000) : OkPart 5 w ⟨A, n, c, cs.map rectR⟩ :=
  ⟨h.rd, lenR cs, fun r hr u hu => by obtain ⟨z, hz, rfl⟩ := List.mem_map.1 hr; simp [rectR] at hu; rcases hu with rfl | rfl | rfl | rfl | rfl <;> rfl, h.nil_, by simp [h.len], hn⟩
theorem parts2 (v : World) {p q : PartD} (hp : OkPart 5 v p) (hq : OkPart 5 v q) : RdPs 5 (v.alloc (.cells #[.slice p.A p.n p.c, .slice q.A q.n q.c] 58)) (some ⟨v.heap.size, 0, none⟩) [p, q] := by
  have hb := (Below.refl v.heap.size v).alloc (Nat.le_refl _) (.cells #[.slice p.A p.n p.c, .slice q.A q.n q.c] 58)
  have hr := RowB.new v #[.slice p.A p.n p.c, .slice q.A q.n q.c] 58
  have up : ∀ {x : PartD}, OkPart 5 v x → OkPart 5 (v.alloc (.cells #[.slice p.A p.n p.c, .slice q.A q.n q.c] 58)) x := fun h => ⟨h.rd.below (by simp) hb |>.more (by simp), h.len, h.one, h.nil, h.cnt, h.bd⟩
  refine ⟨fun _ => ⟨v.heap.size, 0, rfl, by simp, fun k hk => ?_⟩, fun x hx => ?_⟩
  · have hk2 : k < 2 := hk
    rcases k with _ | _ | k
    · exact hr.cell 0
    · exact hr.cell 1
    · omega
  · simp at hx
    rcases hx with rfl | rfl
    · exact up hp
    · exact up hq
theorem own2 {w : World} {base : Nat} {A A2 A3 : Option Addr} {c c2 c3 : Nat} {xa xb : List RectD} (h : w.ownsRow base 65 5 (.slice A (sumN [⟨A2, xa.length, c2, xa.map rectR⟩, ⟨A3, xb.length, c3, xb.map rectR⟩]) c) (sumN [⟨A2, xa.length, c2, xa.map rectR⟩, ⟨A3, xb.length, c3, xb.map rectR⟩]) (catD [⟨A2, xa.length, c2, xa.map rectR⟩, ⟨A3, xb.length, c3, xb.map rectR⟩]).flatten) : OwnR w base A (xa ++ xb).length c (xa ++ xb) := by
  unfold OwnR
  simpa [sumN, catD] using h
set_option maxRecDepth 100000 in
set_option maxHeartbeats 3200000 in
theorem placesIn_any : ∀ (t : Tree) (r : RectD) (lo hi : Nat) (v : Value) (w : World), TreeAt w t lo hi v → hi ≤ w.heap.size → t.ok → t.leaves.length ≤ 500 → RB r →
    Calls Try.prog 82 #[.agg #[.int .i64 r.pane, .int .i64 r.x, .int .i64 r.y, .int .i64 r.w, .int .i64 r.h], v] w (PlP w (placeT t r)) := by
  intro t
  induction t with
  | leaf p =>
    intro r lo hi v w ht hh ho hlv hrb
    obtain rfl : v = leafV p := ht
    have hta := ta_leaf p
    have HR := Lib.hid (show OwnR _ (w.heap.size + 1 + 1) (some ⟨w.heap.size + 1 + 1, 0, none⟩) 1 1 [⟨p, r.x, r.y, r.w, r.h⟩] from (by have q := one_ownR ((w.alloc (.cells #[.int .i64 p, .int .i64 r.x, .int .i64 r.y, .int .i64 r.w, .int .i64 r.h] 65)).alloc (.cells #[.int .i64 p] 120)) ⟨p, r.x, r.y, r.w, r.h⟩; rw [World.size_alloc, World.size_alloc] at q; exact q))
    go_enter Try.func82, Try.ntmps82
    go_wp2_with fail
    refine bodyPost_ret (v := .tuple #[.slice (some ⟨w.heap.size + 1 + 1, 0, none⟩) 1 1, .bool true]) (by simp [results, Try.results82, go_sem]) rfl ⟨?_, some ⟨w.heap.size + 1 + 1, 0, none⟩, 1, rfl, ?_⟩
    · repeat (first | refine Below.setCell ?_ (by simp <;> omega) _ | refine Below.alloc ?_ (by simp <;> omega) _)
      exact Below.refl _ _
    · exact HR.out.more (base' := w.heap.size) (by omega)
  | split d f a b iha ihb =>
    intro r lo hi v w ht hh ho hlv hrb
    obtain ⟨g, m, va, vb, rfl, h1, h2, h3, hrow, hta, htb⟩ := ht
    have t1 := ta_leaf_no g
    have t2 := ta_ptr g
    have hg := hrow.lt
    have HG := Lib.hid hrow
    have HTA := Lib.hid hta
    have HTB := Lib.hid htb
    have HO := Lib.hid (show 1 ≤ f ∧ f ≤ 120 ∧ a.ok ∧ b.ok from ho)
    have hoA : a.ok := ho.2.2.1
    have hoB : b.ok := ho.2.2.2
    have HRB := Lib.hid hrb
    have hlv2 : a.leaves.length + b.leaves.length ≤ 500 := by simpa [leaves] using hlv
    clear hrow hta htb ho hlv
    have HB0 := Lib.hid ((Below.refl w.heap.size w).alloc (Nat.le_refl _) (.cells #[.int .i64 r.pane, .int .i64 r.x, .int .i64 r.y, .int .i64 r.w, .int .i64 r.h] 65))
    by_cases he : ext d r < 3
    · have HN := Lib.hid (show placeT (split d f a b) r = none by unfold placeT; rw [if_pos he])
      have HAr := Lib.hid (fun (W : World) (h : RowB W g (splitC d f va vb)) => areas_no g d f r.pane r.x r.y r.w r.h va vb W h he)
      clear he HRB
      go_enter Try.func82, Try.ntmps82
      go_wp2_with fail
      refine (HAr.out _ (HG.out.below HB0.out hg)).mono ?_
      rintro e v1 ⟨rfl, hb1⟩
      have HB1 := Lib.hid (HB0.out.trans (hb1.mono (by simp)))
      clear hb1
      go_wp2_with fail
      refine bodyPost_ret (v := .tuple #[.slice none 0 0, .bool false]) (by simp [results, Try.results82, go_sem]) rfl (PlP.no HN.out ?_)
      exact HB1.out.alloc (by have := HB1.out.size; omega) _
    · have he' : 3 ≤ ext d r := by omega
      have HAr := Lib.hid (fun (W : World) (h : RowB W g (splitC d f va vb)) => areas_yes g d f r.pane r.x r.y r.w r.h va vb W h he' HRB.out HO.out.1 HO.out.2.1)
      have HRA := Lib.hid (HRB.out.areaA (d := d) HO.out.1 he')
      have HRBb := Lib.hid (HRB.out.areaB (d := d) HO.out.1 he')
      have HPL := Lib.hid (show placeT (split d f a b) r = match placeT a (areaA d f r), placeT b (areaB d f r) with
        | some x, some y => some (x ++ y)
        | _, _ => none by rw [placeT.eq_2, if_neg he]; rfl)
      have HAr' := Lib.hid (fun (W : World) (h : RowB W g (splitC d f va vb)) => show Calls Try.prog _ #[.pointer (some ⟨g, 0, none⟩), .agg #[.int .i64 r.pane, .int .i64 r.x, .int .i64 r.y, .int .i64 r.w, .int .i64 r.h]] W (fun e w' => e = .returned (.tuple #[.agg #[.int .i64 (areaA d f r).pane, .int .i64 (areaA d f r).x, .int .i64 (areaA d f r).y, .int .i64 (areaA d f r).w, .int .i64 (areaA d f r).h, .int .i64 (areaB d f r).pane, .int .i64 (areaB d f r).x, .int .i64 (areaB d f r).y, .int .i64 (areaB d f r).w, .int .i64 (areaB d f r).h], .bool true]) ∧ Below W.heap.size W w') from HAr.out W h)
      clear HAr he he'
      generalize areaA d f r = rA at *
      generalize areaB d f r = rB at *
      rcases hpa : placeT a rA with _ | xa <;> have HPA := Lib.hid hpa <;> clear hpa <;> rcases hpb : placeT b rB with _ | xb <;> have HPB := Lib.hid hpb <;> clear hpb
      · have HN := Lib.hid (show placeT (split d f a b) r = none by rw [HPL.out, HPA.out, HPB.out])
        have HIA := Lib.hid (fun (W : World) (h : TreeAt W a (g + 1) m va) (hw : m ≤ W.heap.size) => show Calls Try.prog 82 #[.agg #[.int .i64 rA.pane, .int .i64 rA.x, .int .i64 rA.y, .int .i64 rA.w, .int .i64 rA.h], va] W (fun e w' => e = .returned (.tuple #[.slice none 0 0, .bool false]) ∧ Below W.heap.size W w') from (by
          have q := iha rA (g + 1) m va W h hw hoA (by omega) HRA.out
          rw [HPA.out] at q
          exact q.mono fun e w' q => ⟨q.2, q.1⟩))
        have HIB := Lib.hid (fun (W : World) (h : TreeAt W b m hi vb) (hw : hi ≤ W.heap.size) => show Calls Try.prog 82 #[.agg #[.int .i64 rB.pane, .int .i64 rB.x, .int .i64 rB.y, .int .i64 rB.w, .int .i64 rB.h], vb] W (fun e w' => e = .returned (.tuple #[.slice none 0 0, .bool false]) ∧ Below W.heap.size W w') from (by
          have q := ihb rB m hi vb W h hw hoB (by omega) HRBb.out
          rw [HPB.out] at q
          exact q.mono fun e w' q => ⟨q.2, q.1⟩))
        go_enter Try.func82, Try.ntmps82
        go_wp2_with fail
        refine (HAr'.out _ (HG.out.below HB0.out hg)).mono ?_
        rintro e v1 ⟨rfl, hb1⟩
        have HB1 := Lib.hid (HB0.out.trans (hb1.mono (by simp)))
        have hz1 : w.heap.size < v1.heap.size := by have := hb1.size; simp at this; omega
        clear hb1
        go_upto_region 11 with fail
        obtain ⟨W, hW⟩ : ∃ W, W = v1.alloc (.cells #[.int .i64 rA.pane, .int .i64 rA.x, .int .i64 rA.y, .int .i64 rA.w, .int .i64 rA.h, .int .i64 rB.pane, .int .i64 rB.x, .int .i64 rB.y, .int .i64 rB.w, .int .i64 rB.h] 122) := ⟨_, rfl⟩
        have HBW := Lib.hid (show Below w.heap.size w W by rw [hW]; exact HB1.out.alloc (by omega) _)
        have HQ := Lib.hid (show RowB W v1.heap.size #[.int .i64 rA.pane, .int .i64 rA.x, .int .i64 rA.y, .int .i64 rA.w, .int .i64 rA.h, .int .i64 rB.pane, .int .i64 rB.x, .int .i64 rB.y, .int .i64 rB.w, .int .i64 rB.h] by rw [hW]; exact RowB.new _ _ _)
        rw [← hW]
        clear hW
        have hq := HQ.out.lt
        have HGW := Lib.hid (HG.out.below HBW.out hg)
        have hgW := HGW.out.lt
        have hsW := HBW.out.size
        have p2 : W.cell? ⟨g, 2, none⟩ = some va := HGW.out.cell 2
        have ka0 : W.cell? ⟨v1.heap.size, 0, none⟩ = some (.int .i64 rA.pane) := HQ.out.cell 0
        have ka1 : W.cell? ⟨v1.heap.size, 1, none⟩ = some (.int .i64 rA.x) := HQ.out.cell 1
        have ka2 : W.cell? ⟨v1.heap.size, 2, none⟩ = some (.int .i64 rA.y) := HQ.out.cell 2
        have ka3 : W.cell? ⟨v1.heap.size, 3, none⟩ = some (.int .i64 rA.w) := HQ.out.cell 3
        have ka4 : W.cell? ⟨v1.heap.size, 4, none⟩ = some (.int .i64 rA.h) := HQ.out.cell 4
        have hmW : m ≤ W.drew.heap.size := by simp; omega
        have HTAW := Lib.hid (TreeAt.drew (TreeAt.below HBW.out HTA.out (by omega)) (by omega))
        go_region_held3 (fun w' => w'.cell? ⟨g, 2, none⟩ = some va ∧ w'.cell? ⟨v1.heap.size, 0, none⟩ = some (.int .i64 rA.pane) ∧ w'.cell? ⟨v1.heap.size, 1, none⟩ = some (.int .i64 rA.x) ∧ w'.cell? ⟨v1.heap.size, 2, none⟩ = some (.int .i64 rA.y) ∧ w'.cell? ⟨v1.heap.size, 3, none⟩ = some (.int .i64 rA.w) ∧ w'.cell? ⟨v1.heap.size, 4, none⟩ = some (.int .i64 rA.h)) (first | (with_reducible assumption) | go_keep)
          ((go_at_call 82; (with_reducible refine (HIA.out _ HTAW.out hmW).mono ?_); rintro e v2 ⟨rfl, hb2'⟩; have HB2 := Lib.hid (show Below W.heap.size W v2 from undrew hb2'); clear hb2'; have HG2 := Lib.hid (HGW.out.below HB2.out hgW); have HQ2 := Lib.hid (HQ.out.below HB2.out hq); have p22 : v2.cell? ⟨g, 2, none⟩ = some va := HG2.out.cell 2; have la0 : v2.cell? ⟨v1.heap.size, 0, none⟩ = some (.int .i64 rA.pane) := HQ2.out.cell 0; have la1 : v2.cell? ⟨v1.heap.size, 1, none⟩ = some (.int .i64 rA.x) := HQ2.out.cell 1; have la2 : v2.cell? ⟨v1.heap.size, 2, none⟩ = some (.int .i64 rA.y) := HQ2.out.cell 2; have la3 : v2.cell? ⟨v1.heap.size, 3, none⟩ = some (.int .i64 rA.w) := HQ2.out.cell 3; have la4 : v2.cell? ⟨v1.heap.size, 4, none⟩ = some (.int .i64 rA.h) := HQ2.out.cell 4))
        go_wp2_with fail
        have HBV := Lib.hid (HBW.out.trans (HB2.out.mono (by omega)))
        have hs2 := HB2.out.size
        have hg2 := HG2.out.lt
        have hq2 := HQ2.out.lt
        have p3 : v2.cell? ⟨g, 3, none⟩ = some vb := HG2.out.cell 3
        have kb0 : v2.cell? ⟨v1.heap.size, 5, none⟩ = some (.int .i64 rB.pane) := HQ2.out.cell 5
        have kb1 : v2.cell? ⟨v1.heap.size, 6, none⟩ = some (.int .i64 rB.x) := HQ2.out.cell 6
        have kb2 : v2.cell? ⟨v1.heap.size, 7, none⟩ = some (.int .i64 rB.y) := HQ2.out.cell 7
        have kb3 : v2.cell? ⟨v1.heap.size, 8, none⟩ = some (.int .i64 rB.w) := HQ2.out.cell 8
        have kb4 : v2.cell? ⟨v1.heap.size, 9, none⟩ = some (.int .i64 rB.h) := HQ2.out.cell 9
        have hiV : hi ≤ v2.drew.heap.size := by simp; omega
        have HTBW := Lib.hid (TreeAt.drew (TreeAt.below HBV.out HTB.out hh) (by omega))
        go_region_held3 (fun w' => w'.cell? ⟨g, 3, none⟩ = some vb ∧ w'.cell? ⟨v1.heap.size, 5, none⟩ = some (.int .i64 rB.pane) ∧ w'.cell? ⟨v1.heap.size, 6, none⟩ = some (.int .i64 rB.x) ∧ w'.cell? ⟨v1.heap.size, 7, none⟩ = some (.int .i64 rB.y) ∧ w'.cell? ⟨v1.heap.size, 8, none⟩ = some (.int .i64 rB.w) ∧ w'.cell? ⟨v1.heap.size, 9, none⟩ = some (.int .i64 rB.h)) (first | (with_reducible assumption) | go_keep)
          ((go_at_call 82; (with_reducible refine (HIB.out _ HTBW.out hiV).mono ?_); rintro e v3 ⟨rfl, hb3'⟩; have HB3 := Lib.hid (show Below v2.heap.size v2 v3 from undrew hb3'); clear hb3'; have HG3 := Lib.hid (HG2.out.below HB3.out hg2); have HQ3 := Lib.hid (HQ2.out.below HB3.out hq2); have p33 : v3.cell? ⟨g, 3, none⟩ = some vb := HG3.out.cell 3; have lb0 : v3.cell? ⟨v1.heap.size, 5, none⟩ = some (.int .i64 rB.pane) := HQ3.out.cell 5; have lb1 : v3.cell? ⟨v1.heap.size, 6, none⟩ = some (.int .i64 rB.x) := HQ3.out.cell 6; have lb2 : v3.cell? ⟨v1.heap.size, 7, none⟩ = some (.int .i64 rB.y) := HQ3.out.cell 7; have lb3 : v3.cell? ⟨v1.heap.size, 8, none⟩ = some (.int .i64 rB.w) := HQ3.out.cell 8; have lb4 : v3.cell? ⟨v1.heap.size, 9, none⟩ = some (.int .i64 rB.h) := HQ3.out.cell 9))
        have HB4 := Lib.hid (HBV.out.trans (HB3.out.mono (by omega)))
        have hs4 : w.heap.size ≤ v3.heap.size := HB4.out.size
        go_wp2_with fail
        exact bodyPost_ret (v := .tuple #[.slice none 0 0, .bool false]) (by simp [results, Try.results82, go_sem]) rfl (PlP.no HN.out HB4.out)
      · have HN := Lib.hid (show placeT (split d f a b) r = none by rw [HPL.out, HPA.out, HPB.out])
        have HIA := Lib.hid (fun (W : World) (h : TreeAt W a (g + 1) m va) (hw : m ≤ W.heap.size) => show Calls Try.prog 82 #[.agg #[.int .i64 rA.pane, .int .i64 rA.x, .int .i64 rA.y, .int .i64 rA.w, .int .i64 rA.h], va] W (fun e w' => e = .returned (.tuple #[.slice none 0 0, .bool false]) ∧ Below W.heap.size W w') from (by
          have q := iha rA (g + 1) m va W h hw hoA (by omega) HRA.out
          rw [HPA.out] at q
          exact q.mono fun e w' q => ⟨q.2, q.1⟩))
        have HIB := Lib.hid (fun (W : World) (h : TreeAt W b m hi vb) (hw : hi ≤ W.heap.size) => show Calls Try.prog 82 #[.agg #[.int .i64 rB.pane, .int .i64 rB.x, .int .i64 rB.y, .int .i64 rB.w, .int .i64 rB.h], vb] W (fun e w' => ∃ A c, e = .returned (.tuple #[.slice A xb.length c, .bool true]) ∧ OwnR w' W.heap.size A xb.length c xb ∧ Below W.heap.size W w') from (by
          have q := ihb rB m hi vb W h hw hoB (by omega) HRBb.out
          rw [HPB.out] at q
          exact q.mono fun e w' q => (by obtain ⟨A, c, q2, q3⟩ := q.2; exact ⟨A, c, q2, q3, q.1⟩)))
        go_enter Try.func82, Try.ntmps82
        go_wp2_with fail
        refine (HAr'.out _ (HG.out.below HB0.out hg)).mono ?_
        rintro e v1 ⟨rfl, hb1⟩
        have HB1 := Lib.hid (HB0.out.trans (hb1.mono (by simp)))
        have hz1 : w.heap.size < v1.heap.size := by have := hb1.size; simp at this; omega
        clear hb1
        go_upto_region 11 with fail
        obtain ⟨W, hW⟩ : ∃ W, W = v1.alloc (.cells #[.int .i64 rA.pane, .int .i64 rA.x, .int .i64 rA.y, .int .i64 rA.w, .int .i64 rA.h, .int .i64 rB.pane, .int .i64 rB.x, .int .i64 rB.y, .int .i64 rB.w, .int .i64 rB.h] 122) := ⟨_, rfl⟩
        have HBW := Lib.hid (show Below w.heap.size w W by rw [hW]; exact HB1.out.alloc (by omega) _)
        have HQ := Lib.hid (show RowB W v1.heap.size #[.int .i64 rA.pane, .int .i64 rA.x, .int .i64 rA.y, .int .i64 rA.w, .int .i64 rA.h, .int .i64 rB.pane, .int .i64 rB.x, .int .i64 rB.y, .int .i64 rB.w, .int .i64 rB.h] by rw [hW]; exact RowB.new _ _ _)
        rw [← hW]
        clear hW
        have hq := HQ.out.lt
        have HGW := Lib.hid (HG.out.below HBW.out hg)
        have hgW := HGW.out.lt
        have hsW := HBW.out.size
        have p2 : W.cell? ⟨g, 2, none⟩ = some va := HGW.out.cell 2
        have ka0 : W.cell? ⟨v1.heap.size, 0, none⟩ = some (.int .i64 rA.pane) := HQ.out.cell 0
        have ka1 : W.cell? ⟨v1.heap.size, 1, none⟩ = some (.int .i64 rA.x) := HQ.out.cell 1
        have ka2 : W.cell? ⟨v1.heap.size, 2, none⟩ = some (.int .i64 rA.y) := HQ.out.cell 2
        have ka3 : W.cell? ⟨v1.heap.size, 3, none⟩ = some (.int .i64 rA.w) := HQ.out.cell 3
        have ka4 : W.cell? ⟨v1.heap.size, 4, none⟩ = some (.int .i64 rA.h) := HQ.out.cell 4
        have hmW : m ≤ W.drew.heap.size := by simp; omega
        have HTAW := Lib.hid (TreeAt.drew (TreeAt.below HBW.out HTA.out (by omega)) (by omega))
        go_region_held3 (fun w' => w'.cell? ⟨g, 2, none⟩ = some va ∧ w'.cell? ⟨v1.heap.size, 0, none⟩ = some (.int .i64 rA.pane) ∧ w'.cell? ⟨v1.heap.size, 1, none⟩ = some (.int .i64 rA.x) ∧ w'.cell? ⟨v1.heap.size, 2, none⟩ = some (.int .i64 rA.y) ∧ w'.cell? ⟨v1.heap.size, 3, none⟩ = some (.int .i64 rA.w) ∧ w'.cell? ⟨v1.heap.size, 4, none⟩ = some (.int .i64 rA.h)) (first | (with_reducible assumption) | go_keep)
          ((go_at_call 82; (with_reducible refine (HIA.out _ HTAW.out hmW).mono ?_); rintro e v2 ⟨rfl, hb2'⟩; have HB2 := Lib.hid (show Below W.heap.size W v2 from undrew hb2'); clear hb2'; have HG2 := Lib.hid (HGW.out.below HB2.out hgW); have HQ2 := Lib.hid (HQ.out.below HB2.out hq); have p22 : v2.cell? ⟨g, 2, none⟩ = some va := HG2.out.cell 2; have la0 : v2.cell? ⟨v1.heap.size, 0, none⟩ = some (.int .i64 rA.pane) := HQ2.out.cell 0; have la1 : v2.cell? ⟨v1.heap.size, 1, none⟩ = some (.int .i64 rA.x) := HQ2.out.cell 1; have la2 : v2.cell? ⟨v1.heap.size, 2, none⟩ = some (.int .i64 rA.y) := HQ2.out.cell 2; have la3 : v2.cell? ⟨v1.heap.size, 3, none⟩ = some (.int .i64 rA.w) := HQ2.out.cell 3; have la4 : v2.cell? ⟨v1.heap.size, 4, none⟩ = some (.int .i64 rA.h) := HQ2.out.cell 4))
        go_wp2_with fail
        have HBV := Lib.hid (HBW.out.trans (HB2.out.mono (by omega)))
        have hs2 := HB2.out.size
        have hg2 := HG2.out.lt
        have hq2 := HQ2.out.lt
        have p3 : v2.cell? ⟨g, 3, none⟩ = some vb := HG2.out.cell 3
        have kb0 : v2.cell? ⟨v1.heap.size, 5, none⟩ = some (.int .i64 rB.pane) := HQ2.out.cell 5
        have kb1 : v2.cell? ⟨v1.heap.size, 6, none⟩ = some (.int .i64 rB.x) := HQ2.out.cell 6
        have kb2 : v2.cell? ⟨v1.heap.size, 7, none⟩ = some (.int .i64 rB.y) := HQ2.out.cell 7
        have kb3 : v2.cell? ⟨v1.heap.size, 8, none⟩ = some (.int .i64 rB.w) := HQ2.out.cell 8
        have kb4 : v2.cell? ⟨v1.heap.size, 9, none⟩ = some (.int .i64 rB.h) := HQ2.out.cell 9
        have hiV : hi ≤ v2.drew.heap.size := by simp; omega
        have HTBW := Lib.hid (TreeAt.drew (TreeAt.below HBV.out HTB.out hh) (by omega))
        go_region_held3 (fun w' => w'.cell? ⟨g, 3, none⟩ = some vb ∧ w'.cell? ⟨v1.heap.size, 5, none⟩ = some (.int .i64 rB.pane) ∧ w'.cell? ⟨v1.heap.size, 6, none⟩ = some (.int .i64 rB.x) ∧ w'.cell? ⟨v1.heap.size, 7, none⟩ = some (.int .i64 rB.y) ∧ w'.cell? ⟨v1.heap.size, 8, none⟩ = some (.int .i64 rB.w) ∧ w'.cell? ⟨v1.heap.size, 9, none⟩ = some (.int .i64 rB.h)) (first | (with_reducible assumption) | go_keep)
          ((go_at_call 82; (with_reducible refine (HIB.out _ HTBW.out hiV).mono ?_); rintro e v3 ⟨A3, c3, rfl, ho3, hb3'⟩; have HO3 := Lib.hid ho3; clear ho3; have HB3 := Lib.hid (show Below v2.heap.size v2 v3 from undrew hb3'); clear hb3'; have HG3 := Lib.hid (HG2.out.below HB3.out hg2); have HQ3 := Lib.hid (HQ2.out.below HB3.out hq2); have p33 : v3.cell? ⟨g, 3, none⟩ = some vb := HG3.out.cell 3; have lb0 : v3.cell? ⟨v1.heap.size, 5, none⟩ = some (.int .i64 rB.pane) := HQ3.out.cell 5; have lb1 : v3.cell? ⟨v1.heap.size, 6, none⟩ = some (.int .i64 rB.x) := HQ3.out.cell 6; have lb2 : v3.cell? ⟨v1.heap.size, 7, none⟩ = some (.int .i64 rB.y) := HQ3.out.cell 7; have lb3 : v3.cell? ⟨v1.heap.size, 8, none⟩ = some (.int .i64 rB.w) := HQ3.out.cell 8; have lb4 : v3.cell? ⟨v1.heap.size, 9, none⟩ = some (.int .i64 rB.h) := HQ3.out.cell 9))
        have HB4 := Lib.hid (HBV.out.trans (HB3.out.mono (by omega)))
        have hs4 : w.heap.size ≤ v3.heap.size := HB4.out.size
        go_wp2_with fail
        exact bodyPost_ret (v := .tuple #[.slice none 0 0, .bool false]) (by simp [results, Try.results82, go_sem]) rfl (PlP.no HN.out HB4.out)
      · have HN := Lib.hid (show placeT (split d f a b) r = none by rw [HPL.out, HPA.out, HPB.out])
        have HIA := Lib.hid (fun (W : World) (h : TreeAt W a (g + 1) m va) (hw : m ≤ W.heap.size) => show Calls Try.prog 82 #[.agg #[.int .i64 rA.pane, .int .i64 rA.x, .int .i64 rA.y, .int .i64 rA.w, .int .i64 rA.h], va] W (fun e w' => ∃ A c, e = .returned (.tuple #[.slice A xa.length c, .bool true]) ∧ OwnR w' W.heap.size A xa.length c xa ∧ Below W.heap.size W w') from (by
          have q := iha rA (g + 1) m va W h hw hoA (by omega) HRA.out
          rw [HPA.out] at q
          exact q.mono fun e w' q => (by obtain ⟨A, c, q2, q3⟩ := q.2; exact ⟨A, c, q2, q3, q.1⟩)))
        have HIB := Lib.hid (fun (W : World) (h : TreeAt W b m hi vb) (hw : hi ≤ W.heap.size) => show Calls Try.prog 82 #[.agg #[.int .i64 rB.pane, .int .i64 rB.x, .int .i64 rB.y, .int .i64 rB.w, .int .i64 rB.h], vb] W (fun e w' => e = .returned (.tuple #[.slice none 0 0, .bool false]) ∧ Below W.heap.size W w') from (by
          have q := ihb rB m hi vb W h hw hoB (by omega) HRBb.out
          rw [HPB.out] at q
          exact q.mono fun e w' q => ⟨q.2, q.1⟩))
        go_enter Try.func82, Try.ntmps82
        go_wp2_with fail
        refine (HAr'.out _ (HG.out.below HB0.out hg)).mono ?_
        rintro e v1 ⟨rfl, hb1⟩
        have HB1 := Lib.hid (HB0.out.trans (hb1.mono (by simp)))
        have hz1 : w.heap.size < v1.heap.size := by have := hb1.size; simp at this; omega
        clear hb1
        go_upto_region 11 with fail
        obtain ⟨W, hW⟩ : ∃ W, W = v1.alloc (.cells #[.int .i64 rA.pane, .int .i64 rA.x, .int .i64 rA.y, .int .i64 rA.w, .int .i64 rA.h, .int .i64 rB.pane, .int .i64 rB.x, .int .i64 rB.y, .int .i64 rB.w, .int .i64 rB.h] 122) := ⟨_, rfl⟩
        have HBW := Lib.hid (show Below w.heap.size w W by rw [hW]; exact HB1.out.alloc (by omega) _)
        have HQ := Lib.hid (show RowB W v1.heap.size #[.int .i64 rA.pane, .int .i64 rA.x, .int .i64 rA.y, .int .i64 rA.w, .int .i64 rA.h, .int .i64 rB.pane, .int .i64 rB.x, .int .i64 rB.y, .int .i64 rB.w, .int .i64 rB.h] by rw [hW]; exact RowB.new _ _ _)
        rw [← hW]
        clear hW
        have hq := HQ.out.lt
        have HGW := Lib.hid (HG.out.below HBW.out hg)
        have hgW := HGW.out.lt
        have hsW := HBW.out.size
        have p2 : W.cell? ⟨g, 2, none⟩ = some va := HGW.out.cell 2
        have ka0 : W.cell? ⟨v1.heap.size, 0, none⟩ = some (.int .i64 rA.pane) := HQ.out.cell 0
        have ka1 : W.cell? ⟨v1.heap.size, 1, none⟩ = some (.int .i64 rA.x) := HQ.out.cell 1
        have ka2 : W.cell? ⟨v1.heap.size, 2, none⟩ = some (.int .i64 rA.y) := HQ.out.cell 2
        have ka3 : W.cell? ⟨v1.heap.size, 3, none⟩ = some (.int .i64 rA.w) := HQ.out.cell 3
        have ka4 : W.cell? ⟨v1.heap.size, 4, none⟩ = some (.int .i64 rA.h) := HQ.out.cell 4
        have hmW : m ≤ W.drew.heap.size := by simp; omega
        have HTAW := Lib.hid (TreeAt.drew (TreeAt.below HBW.out HTA.out (by omega)) (by omega))
        go_region_held3 (fun w' => w'.cell? ⟨g, 2, none⟩ = some va ∧ w'.cell? ⟨v1.heap.size, 0, none⟩ = some (.int .i64 rA.pane) ∧ w'.cell? ⟨v1.heap.size, 1, none⟩ = some (.int .i64 rA.x) ∧ w'.cell? ⟨v1.heap.size, 2, none⟩ = some (.int .i64 rA.y) ∧ w'.cell? ⟨v1.heap.size, 3, none⟩ = some (.int .i64 rA.w) ∧ w'.cell? ⟨v1.heap.size, 4, none⟩ = some (.int .i64 rA.h)) (first | (with_reducible assumption) | go_keep)
          ((go_at_call 82; (with_reducible refine (HIA.out _ HTAW.out hmW).mono ?_); rintro e v2 ⟨A2, c2, rfl, ho2, hb2'⟩; have HO2 := Lib.hid ho2; clear ho2; have HB2 := Lib.hid (show Below W.heap.size W v2 from undrew hb2'); clear hb2'; have HG2 := Lib.hid (HGW.out.below HB2.out hgW); have HQ2 := Lib.hid (HQ.out.below HB2.out hq); have p22 : v2.cell? ⟨g, 2, none⟩ = some va := HG2.out.cell 2; have la0 : v2.cell? ⟨v1.heap.size, 0, none⟩ = some (.int .i64 rA.pane) := HQ2.out.cell 0; have la1 : v2.cell? ⟨v1.heap.size, 1, none⟩ = some (.int .i64 rA.x) := HQ2.out.cell 1; have la2 : v2.cell? ⟨v1.heap.size, 2, none⟩ = some (.int .i64 rA.y) := HQ2.out.cell 2; have la3 : v2.cell? ⟨v1.heap.size, 3, none⟩ = some (.int .i64 rA.w) := HQ2.out.cell 3; have la4 : v2.cell? ⟨v1.heap.size, 4, none⟩ = some (.int .i64 rA.h) := HQ2.out.cell 4))
        go_wp2_with fail
        have HBV := Lib.hid (HBW.out.trans (HB2.out.mono (by omega)))
        have hs2 := HB2.out.size
        have hg2 := HG2.out.lt
        have hq2 := HQ2.out.lt
        have p3 : v2.cell? ⟨g, 3, none⟩ = some vb := HG2.out.cell 3
        have kb0 : v2.cell? ⟨v1.heap.size, 5, none⟩ = some (.int .i64 rB.pane) := HQ2.out.cell 5
        have kb1 : v2.cell? ⟨v1.heap.size, 6, none⟩ = some (.int .i64 rB.x) := HQ2.out.cell 6
        have kb2 : v2.cell? ⟨v1.heap.size, 7, none⟩ = some (.int .i64 rB.y) := HQ2.out.cell 7
        have kb3 : v2.cell? ⟨v1.heap.size, 8, none⟩ = some (.int .i64 rB.w) := HQ2.out.cell 8
        have kb4 : v2.cell? ⟨v1.heap.size, 9, none⟩ = some (.int .i64 rB.h) := HQ2.out.cell 9
        have hiV : hi ≤ v2.drew.heap.size := by simp; omega
        have HTBW := Lib.hid (TreeAt.drew (TreeAt.below HBV.out HTB.out hh) (by omega))
        go_region_held3 (fun w' => w'.cell? ⟨g, 3, none⟩ = some vb ∧ w'.cell? ⟨v1.heap.size, 5, none⟩ = some (.int .i64 rB.pane) ∧ w'.cell? ⟨v1.heap.size, 6, none⟩ = some (.int .i64 rB.x) ∧ w'.cell? ⟨v1.heap.size, 7, none⟩ = some (.int .i64 rB.y) ∧ w'.cell? ⟨v1.heap.size, 8, none⟩ = some (.int .i64 rB.w) ∧ w'.cell? ⟨v1.heap.size, 9, none⟩ = some (.int .i64 rB.h)) (first | (with_reducible assumption) | go_keep)
          ((go_at_call 82; (with_reducible refine (HIB.out _ HTBW.out hiV).mono ?_); rintro e v3 ⟨rfl, hb3'⟩; have HB3 := Lib.hid (show Below v2.heap.size v2 v3 from undrew hb3'); clear hb3'; have HG3 := Lib.hid (HG2.out.below HB3.out hg2); have HQ3 := Lib.hid (HQ2.out.below HB3.out hq2); have p33 : v3.cell? ⟨g, 3, none⟩ = some vb := HG3.out.cell 3; have lb0 : v3.cell? ⟨v1.heap.size, 5, none⟩ = some (.int .i64 rB.pane) := HQ3.out.cell 5; have lb1 : v3.cell? ⟨v1.heap.size, 6, none⟩ = some (.int .i64 rB.x) := HQ3.out.cell 6; have lb2 : v3.cell? ⟨v1.heap.size, 7, none⟩ = some (.int .i64 rB.y) := HQ3.out.cell 7; have lb3 : v3.cell? ⟨v1.heap.size, 8, none⟩ = some (.int .i64 rB.w) := HQ3.out.cell 8; have lb4 : v3.cell? ⟨v1.heap.size, 9, none⟩ = some (.int .i64 rB.h) := HQ3.out.cell 9))
        have HB4 := Lib.hid (HBV.out.trans (HB3.out.mono (by omega)))
        have hs4 : w.heap.size ≤ v3.heap.size := HB4.out.size
        go_wp2_with fail
        exact bodyPost_ret (v := .tuple #[.slice none 0 0, .bool false]) (by simp [results, Try.results82, go_sem]) rfl (PlP.no HN.out HB4.out)
      · have HN := Lib.hid (show placeT (split d f a b) r = some (xa ++ xb) by rw [HPL.out, HPA.out, HPB.out])
        have HIA := Lib.hid (fun (W : World) (h : TreeAt W a (g + 1) m va) (hw : m ≤ W.heap.size) => show Calls Try.prog 82 #[.agg #[.int .i64 rA.pane, .int .i64 rA.x, .int .i64 rA.y, .int .i64 rA.w, .int .i64 rA.h], va] W (fun e w' => ∃ A c, e = .returned (.tuple #[.slice A xa.length c, .bool true]) ∧ OwnR w' W.heap.size A xa.length c xa ∧ Below W.heap.size W w') from (by
          have q := iha rA (g + 1) m va W h hw hoA (by omega) HRA.out
          rw [HPA.out] at q
          exact q.mono fun e w' q => (by obtain ⟨A, c, q2, q3⟩ := q.2; exact ⟨A, c, q2, q3, q.1⟩)))
        have HIB := Lib.hid (fun (W : World) (h : TreeAt W b m hi vb) (hw : hi ≤ W.heap.size) => show Calls Try.prog 82 #[.agg #[.int .i64 rB.pane, .int .i64 rB.x, .int .i64 rB.y, .int .i64 rB.w, .int .i64 rB.h], vb] W (fun e w' => ∃ A c, e = .returned (.tuple #[.slice A xb.length c, .bool true]) ∧ OwnR w' W.heap.size A xb.length c xb ∧ Below W.heap.size W w') from (by
          have q := ihb rB m hi vb W h hw hoB (by omega) HRBb.out
          rw [HPB.out] at q
          exact q.mono fun e w' q => (by obtain ⟨A, c, q2, q3⟩ := q.2; exact ⟨A, c, q2, q3, q.1⟩)))
        go_enter Try.func82, Try.ntmps82
        go_wp2_with fail
        refine (HAr'.out _ (HG.out.below HB0.out hg)).mono ?_
        rintro e v1 ⟨rfl, hb1⟩
        have HB1 := Lib.hid (HB0.out.trans (hb1.mono (by simp)))
        have hz1 : w.heap.size < v1.heap.size := by have := hb1.size; simp at this; omega
        clear hb1
        go_upto_region 11 with fail
        obtain ⟨W, hW⟩ : ∃ W, W = v1.alloc (.cells #[.int .i64 rA.pane, .int .i64 rA.x, .int .i64 rA.y, .int .i64 rA.w, .int .i64 rA.h, .int .i64 rB.pane, .int .i64 rB.x, .int .i64 rB.y, .int .i64 rB.w, .int .i64 rB.h] 122) := ⟨_, rfl⟩
        have HBW := Lib.hid (show Below w.heap.size w W by rw [hW]; exact HB1.out.alloc (by omega) _)
        have HQ := Lib.hid (show RowB W v1.heap.size #[.int .i64 rA.pane, .int .i64 rA.x, .int .i64 rA.y, .int .i64 rA.w, .int .i64 rA.h, .int .i64 rB.pane, .int .i64 rB.x, .int .i64 rB.y, .int .i64 rB.w, .int .i64 rB.h] by rw [hW]; exact RowB.new _ _ _)
        rw [← hW]
        clear hW
        have hq := HQ.out.lt
        have HGW := Lib.hid (HG.out.below HBW.out hg)
        have hgW := HGW.out.lt
        have hsW := HBW.out.size
        have p2 : W.cell? ⟨g, 2, none⟩ = some va := HGW.out.cell 2
        have ka0 : W.cell? ⟨v1.heap.size, 0, none⟩ = some (.int .i64 rA.pane) := HQ.out.cell 0
        have ka1 : W.cell? ⟨v1.heap.size, 1, none⟩ = some (.int .i64 rA.x) := HQ.out.cell 1
        have ka2 : W.cell? ⟨v1.heap.size, 2, none⟩ = some (.int .i64 rA.y) := HQ.out.cell 2
        have ka3 : W.cell? ⟨v1.heap.size, 3, none⟩ = some (.int .i64 rA.w) := HQ.out.cell 3
        have ka4 : W.cell? ⟨v1.heap.size, 4, none⟩ = some (.int .i64 rA.h) := HQ.out.cell 4
        have hmW : m ≤ W.drew.heap.size := by simp; omega
        have HTAW := Lib.hid (TreeAt.drew (TreeAt.below HBW.out HTA.out (by omega)) (by omega))
        go_region_held3 (fun w' => w'.cell? ⟨g, 2, none⟩ = some va ∧ w'.cell? ⟨v1.heap.size, 0, none⟩ = some (.int .i64 rA.pane) ∧ w'.cell? ⟨v1.heap.size, 1, none⟩ = some (.int .i64 rA.x) ∧ w'.cell? ⟨v1.heap.size, 2, none⟩ = some (.int .i64 rA.y) ∧ w'.cell? ⟨v1.heap.size, 3, none⟩ = some (.int .i64 rA.w) ∧ w'.cell? ⟨v1.heap.size, 4, none⟩ = some (.int .i64 rA.h)) (first | (with_reducible assumption) | go_keep)
          ((go_at_call 82; (with_reducible refine (HIA.out _ HTAW.out hmW).mono ?_); rintro e v2 ⟨A2, c2, rfl, ho2, hb2'⟩; have HO2 := Lib.hid ho2; clear ho2; have HB2 := Lib.hid (show Below W.heap.size W v2 from undrew hb2'); clear hb2'; have HG2 := Lib.hid (HGW.out.below HB2.out hgW); have HQ2 := Lib.hid (HQ.out.below HB2.out hq); have p22 : v2.cell? ⟨g, 2, none⟩ = some va := HG2.out.cell 2; have la0 : v2.cell? ⟨v1.heap.size, 0, none⟩ = some (.int .i64 rA.pane) := HQ2.out.cell 0; have la1 : v2.cell? ⟨v1.heap.size, 1, none⟩ = some (.int .i64 rA.x) := HQ2.out.cell 1; have la2 : v2.cell? ⟨v1.heap.size, 2, none⟩ = some (.int .i64 rA.y) := HQ2.out.cell 2; have la3 : v2.cell? ⟨v1.heap.size, 3, none⟩ = some (.int .i64 rA.w) := HQ2.out.cell 3; have la4 : v2.cell? ⟨v1.heap.size, 4, none⟩ = some (.int .i64 rA.h) := HQ2.out.cell 4))
        go_wp2_with fail
        have HBV := Lib.hid (HBW.out.trans (HB2.out.mono (by omega)))
        have hs2 := HB2.out.size
        have hg2 := HG2.out.lt
        have hq2 := HQ2.out.lt
        have p3 : v2.cell? ⟨g, 3, none⟩ = some vb := HG2.out.cell 3
        have kb0 : v2.cell? ⟨v1.heap.size, 5, none⟩ = some (.int .i64 rB.pane) := HQ2.out.cell 5
        have kb1 : v2.cell? ⟨v1.heap.size, 6, none⟩ = some (.int .i64 rB.x) := HQ2.out.cell 6
        have kb2 : v2.cell? ⟨v1.heap.size, 7, none⟩ = some (.int .i64 rB.y) := HQ2.out.cell 7
        have kb3 : v2.cell? ⟨v1.heap.size, 8, none⟩ = some (.int .i64 rB.w) := HQ2.out.cell 8
        have kb4 : v2.cell? ⟨v1.heap.size, 9, none⟩ = some (.int .i64 rB.h) := HQ2.out.cell 9
        have hiV : hi ≤ v2.drew.heap.size := by simp; omega
        have HTBW := Lib.hid (TreeAt.drew (TreeAt.below HBV.out HTB.out hh) (by omega))
        go_region_held3 (fun w' => w'.cell? ⟨g, 3, none⟩ = some vb ∧ w'.cell? ⟨v1.heap.size, 5, none⟩ = some (.int .i64 rB.pane) ∧ w'.cell? ⟨v1.heap.size, 6, none⟩ = some (.int .i64 rB.x) ∧ w'.cell? ⟨v1.heap.size, 7, none⟩ = some (.int .i64 rB.y) ∧ w'.cell? ⟨v1.heap.size, 8, none⟩ = some (.int .i64 rB.w) ∧ w'.cell? ⟨v1.heap.size, 9, none⟩ = some (.int .i64 rB.h)) (first | (with_reducible assumption) | go_keep)
          ((go_at_call 82; (with_reducible refine (HIB.out _ HTBW.out hiV).mono ?_); rintro e v3 ⟨A3, c3, rfl, ho3, hb3'⟩; have HO3 := Lib.hid ho3; clear ho3; have HB3 := Lib.hid (show Below v2.heap.size v2 v3 from undrew hb3'); clear hb3'; have HG3 := Lib.hid (HG2.out.below HB3.out hg2); have HQ3 := Lib.hid (HQ2.out.below HB3.out hq2); have p33 : v3.cell? ⟨g, 3, none⟩ = some vb := HG3.out.cell 3; have lb0 : v3.cell? ⟨v1.heap.size, 5, none⟩ = some (.int .i64 rB.pane) := HQ3.out.cell 5; have lb1 : v3.cell? ⟨v1.heap.size, 6, none⟩ = some (.int .i64 rB.x) := HQ3.out.cell 6; have lb2 : v3.cell? ⟨v1.heap.size, 7, none⟩ = some (.int .i64 rB.y) := HQ3.out.cell 7; have lb3 : v3.cell? ⟨v1.heap.size, 8, none⟩ = some (.int .i64 rB.w) := HQ3.out.cell 8; have lb4 : v3.cell? ⟨v1.heap.size, 9, none⟩ = some (.int .i64 rB.h) := HQ3.out.cell 9))
        have HB4 := Lib.hid (HBV.out.trans (HB3.out.mono (by omega)))
        have hs4 : w.heap.size ≤ v3.heap.size := HB4.out.size
        have HO23 := Lib.hid (HO2.out.below (Nat.le_refl _) HB3.out)
        have hla : xa.length ≤ 500 := by
          have := congrArg List.length (placeT_panes a _ _ HPA.out)
          rw [List.length_map] at this; omega
        have hlb : xb.length ≤ 500 := by
          have := congrArg List.length (placeT_panes b _ _ HPB.out)
          rw [List.length_map] at this; omega
        have HP := Lib.hid (parts2 v3 (okPartR HO23.out (by omega)) (okPartR HO3.out (by omega)))
        go_wp2_with fail
        refine (concatR_any _ 2 2 [⟨A2, xa.length, c2, xa.map rectR⟩, ⟨A3, xb.length, c3, xb.map rectR⟩] _ HP.out rfl (by omega) (fun h => by cases h)).mono ?_
        rintro e v4 ⟨A4, c4, rfl, ho4, hb4⟩
        have HO4 := Lib.hid (show OwnR v4 _ A4 (xa ++ xb).length c4 (xa ++ xb) from own2 ho4)
        have HBE := Lib.hid ((HB4.out.alloc (by omega) _).trans (hb4.mono (by simp; omega)))
        have HSE := Lib.hid (show sumN [⟨A2, xa.length, c2, xa.map rectR⟩, ⟨A3, xb.length, c3, xb.map rectR⟩] = (xa ++ xb).length by simp [sumN])
        clear ho4 hb4
        rw [HSE.out]
        go_wp2_with fail
        refine bodyPost_ret (v := .tuple #[.slice A4 (xa ++ xb).length c4, .bool true]) (by simp [results, Try.results82, go_sem]) rfl ⟨HBE.out, ?_⟩
        rw [HN.out]
        exact ⟨A4, c4, rfl, HO4.out.more (by simp; omega)⟩
end Go.Proofs.Ytgejjdkgeoojmaa.Tr

