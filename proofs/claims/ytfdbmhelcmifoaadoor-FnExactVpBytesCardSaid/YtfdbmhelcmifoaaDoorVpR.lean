/- The program's parser: an argument begins, the rest is skipped, a sequence is complete. -/
import Derived.Test.YtfdbmhelcmifoaaDoorVpS
import Derived.Deep.RegionWith
import Derived.StillTailTactics
import Derived.Deep.DrawnRows
namespace Go.Proofs.YtfdbmhelcmifoaaDoor.Vp
open Go.RowKit Go.Proofs.YtfdbmhelcmifoaaDoor.Bytes Go.Proofs.YtfdbmhelcmifoaaDoor.DOk Go.Proofs.YtfdbmhelcmifoaaDoor.Rune Go.Proofs.YtfdbmhelcmifoaaDoor.RowK Go.Proofs.YtfdbmhelcmifoaaDoor.Gr
set_option linter.unusedVariables false
attribute [local go_sem ↓] Go.wp_at_zero Go.wp_at_succ
set_option maxRecDepth 100000 in
set_option maxHeartbeats 800000 in
theorem skip_any (g base : Nat) (st : Int) (mk : Bool) (A : Option Addr) (na ca : Nat) (zs bs : List Int) (P : Option Addr) (np cp : Nat) (w : World) (h : Par w base g ⟨st, mk, zs, bs⟩ A na ca P np cp) :
    Calls Tryd.prog 106 #[.pointer (some ⟨g, 0, none⟩)] w (Mth w base g A na ca P np cp ⟨3, mk, zs, []⟩) := by
  have hg := h.bx.lt
  have c1 : w.cell? ⟨g, 1, none⟩ = some (.bool mk) := h.bx.cell 1
  have c2 : w.cell? ⟨g, 2, none⟩ = some (.slice A na ca) := h.bx.cell 2
  have HX := Lib.hid (show BoxP w g #[.int .i64 st, .bool mk, .slice A na ca, .slice P np cp, fnOf g st] from h.bx)
  have H := Lib.hid h
  clear h
  go_enter Tryd.func106, Tryd.ntmps106
  go_wp2_with fail
  go_region_with (go_at_call 73; refine (become_3 g _ _ _ _ _ mk A na ca none 0 0 _ (BoxP.drew HX.out)).mono ?_; rintro e w1 ⟨rfl, hb1, hb2⟩; have hb : Bec g 3 mk A na ca none 0 0 w.drew _ w1 := ⟨rfl, hb1, hb2⟩; have HM := Lib.hid (mth_bec H.out hb (drew_only w)); clear hb hb1 hb2)
  all_goals
    go_end0
    exact HM.out
set_option maxRecDepth 100000 in
set_option maxHeartbeats 1600000 in
theorem completed_any (g base : Nat) (st : Int) (mk : Bool) (A : Option Addr) (na ca : Nat) (zs bs : List Int) (P : Option Addr) (np cp : Nat) (b : Int) (w : World) (h : Par w base g ⟨st, mk, zs, bs⟩ A na ca P np cp) :
    Calls Tryd.prog 104 #[.pointer (some ⟨g, 0, none⟩), .int .i64 b] w (Ans w base g A na ca P np cp vz ⟨4, b, mk, zs⟩) := by
  have hg := h.bx.lt
  have c1 : w.cell? ⟨g, 1, none⟩ = some (.bool mk) := h.bx.cell 1
  have c2 : w.cell? ⟨g, 2, none⟩ = some (.slice A na ca) := h.bx.cell 2
  have HW := Lib.hid (show Below w.heap.size w (((w.alloc (.cells #[.int .i64 0, .int .i64 0, .bool false, .slice none 0 0] 53)).alloc (.cells #[.int .i64 4, .int .i64 b, .bool mk, .slice A na ca] 53)).drew) from (((Below.refl _ _).alloc (Nat.le_refl _) _).alloc (by simp) _).drew)
  have HP := Lib.hid (h.below HW.out (Nat.le_refl _))
  have HX := Lib.hid (show BoxP (((w.alloc (.cells #[.int .i64 0, .int .i64 0, .bool false, .slice none 0 0] 53)).alloc (.cells #[.int .i64 4, .int .i64 b, .bool mk, .slice A na ca] 53)).drew) g #[.int .i64 st, .bool mk, .slice A na ca, .slice P np cp, fnOf g st] from HP.out.bx)
  have HA := Lib.hid (show BoxA (((w.alloc (.cells #[.int .i64 0, .int .i64 0, .bool false, .slice none 0 0] 53)).alloc (.cells #[.int .i64 4, .int .i64 b, .bool mk, .slice A na ca] 53)).drew) w.heap.size #[.int .i64 0, .int .i64 0, .bool false, .slice none 0 0] from BoxA.drew ((BoxA.new w _).below ((Below.refl _ _).alloc (Nat.le_refl _) _) (by simp)))
  have HC := Lib.hid (show BoxA (((w.alloc (.cells #[.int .i64 0, .int .i64 0, .bool false, .slice none 0 0] 53)).alloc (.cells #[.int .i64 4, .int .i64 b, .bool mk, .slice A na ca] 53)).drew) (w.heap.size + 1) #[.int .i64 4, .int .i64 b, .bool mk, .slice A na ca] from by have h := BoxA.new (w.alloc (.cells #[.int .i64 0, .int .i64 0, .bool false, .slice none 0 0] 53)) #[.int .i64 4, .int .i64 b, .bool mk, .slice A na ca]; simp only [World.size_alloc] at h; exact BoxA.drew h)
  have H := Lib.hid h
  clear h
  go_enter Tryd.func104, Tryd.ntmps104
  go_wp2_with fail
  go_region_with fail
  all_goals
    go_wp2_with fail
    refine (become_0 g _ _ _ _ _ false none 0 0 none 0 0 _ HX.out).mono ?_
    rintro e w1 ⟨rfl, hb1, hb2⟩
    have hb : Bec g 0 false none 0 0 none 0 0 _ _ w1 := ⟨rfl, hb1, hb2⟩
    have HM := Lib.hid (ans_bez HP.out hb (Only.refl _ _) 4 b mk)
    have a0 := HA.out.only hb2 (fun e => by omega)
    have a1 := HC.out.only hb2 (fun e => by omega)
    obtain ⟨⟨x0, x1, x2, x3⟩, f0, f1, f2, f3⟩ := a0.cells
    obtain ⟨⟨y0, y1, y2, y3⟩, _⟩ := a1.cells
    clear hb hb1 hb2 a0 a1
    go_wp2_with fail
    refine bodyPost_ret (v := .agg #[.int .i64 4, .int .i64 b, .bool mk, .slice A na ca]) (by simp [results, Tryd.results104, go_sem, x0, x1, x2, x3]) rfl ?_
    exact ans_wrap H.out HW.out HM.out (put4 w1 w.heap.size _ _ _ _) (fun i hi => by subst hi; exact ⟨Nat.le_refl _, by simp; omega⟩)
theorem par_new {w : World} {base g : Nat} {st : Int} {mk : Bool} {zs bs : List Int} {A : Option Addr} {na ca : Nat} {P : Option Addr} {np cp : Nat} {d : Int} (h : Par w base g ⟨st, mk, zs, bs⟩ A na ca P np cp) (hb : base ≤ w.heap.size) :
    Par ((w.setCell ⟨g, 2, none⟩ (.slice (some ⟨w.heap.size, 0, none⟩) 1 1)).alloc (.cells #[.int .i64 d] 3)) base g ⟨st, mk, [d], bs⟩ (some ⟨w.heap.size, 0, none⟩) 1 1 P np cp := by
  have hx : BoxP w g #[.int .i64 st, .bool mk, .slice A na ca, .slice P np cp, fnOf g st] := h.bx
  have hs := hx.set2 (.slice (some ⟨w.heap.size, 0, none⟩) 1 1)
  have hlit := World.ownsRow_lit (w.setCell ⟨g, 2, none⟩ (.slice (some ⟨w.heap.size, 0, none⟩) 1 1)) (base := base) (e := 3) (size := 1) #[.int .i64 d] 1 (by simpa using hb) (by decide) rfl
  simp only [World.size_setCell] at hlit
  exact ⟨hs.below ((Below.refl _ _).alloc (Nat.le_refl _) _) hs.lt, hlit, World.ownsRow.alloc (own_setNe h.b g 2 _ h.nP) _⟩
theorem mth_app {w w1 : World} {base g : Nat} {st : Int} {mk : Bool} {zs bs : List Int} {A A' : Option Addr} {na ca c' : Nat} {P : Option Addr} {np cp : Nat} {d : Int} (h : Par w base g ⟨st, mk, zs, bs⟩ A na ca P np cp)
    (ho : w1.ownsRow base 3 1 (.slice A' (na + 1) c') (na + 1) (iv zs ++ [.int .i64 d])) (hg : w.grownBy w1 (Value.slice A na ca).ownBlock) (hf : ∀ i, (Value.slice A' (na + 1) c').ownBlock = some i → (Value.slice A na ca).ownBlock = some i ∨ w.heap.size ≤ i) :
    BoxP w1 g (parV g st mk A na ca P np cp) ∧ Mth w base g A na ca P np cp ⟨st, mk, zs ++ [d], bs⟩ (.returned (.tuple #[])) (w1.setCell ⟨g, 2, none⟩ (.slice A' (na + 1) c')) := by
  have on : Only (fun i => Blk A na ca i) w w1 := Only.grown hg fun i hi => hi
  have hb := h.bx.only on h.nA
  have hx : BoxP w1 g #[.int .i64 st, .bool mk, .slice A na ca, .slice P np cp, fnOf g st] := hb
  have hne : (Value.slice A' (na + 1) c').ownBlock ≠ some g := fun e => (hf g e).elim (fun h' => h.nA h') (fun h' => by have := h.bx.lt; omega)
  have ho' : OwnI w1 base A' (na + 1) c' (zs ++ [d]) := by unfold OwnI; have e : iv (zs ++ [d]) = iv zs ++ [.int .i64 d] := by simp [iv]
                                                           rw [e]; exact ho
  have hp : Own w1 base P np cp bs := Only.own h.b on (fun i hi e => own_ne h.b h.i (by decide) i hi e)
  refine ⟨hb, A', na + 1, c', P, np, cp, rfl, ⟨hx.set2 _, own_setNe ho' g 2 _ hne, own_setNe hp g 2 _ h.nP⟩, hf, fun i hi => .inl hi, ?_⟩
  exact (on.mono fun i hi => .inr (.inl hi)).trans (Only.cell_ _ g 2 _ (.inl rfl))
theorem argV_nil {zs : List Int} (h : zs.length = 0) : argV zs = [0] ++ [0] := by unfold argV; rw [if_pos (List.eq_nil_of_length_eq_zero h)]
theorem argV_some {zs : List Int} (h : ¬ zs.length = 0) : argV zs = zs ++ [0] := by unfold argV; rw [if_neg (fun e => by rw [e] at h; simp at h)]
set_option maxRecDepth 100000 in
set_option maxHeartbeats 1600000 in
theorem addArg_8 (g base : Nat) (st : Int) (mk : Bool) (A : Option Addr) (ca : Nat) (zs bs : List Int) (P : Option Addr) (np cp : Nat) (w : World) (h : Par w base g ⟨st, mk, zs, bs⟩ A 8 ca P np cp) :
    Calls Tryd.prog 102 #[.pointer (some ⟨g, 0, none⟩)] w (Mth w base g A 8 ca P np cp ⟨3, mk, zs, []⟩) := by
  have hg := h.bx.lt
  have c2 : w.cell? ⟨g, 2, none⟩ = some (.slice A 8 ca) := h.bx.cell 2
  have HS := Lib.hid (skip_any g base st mk A 8 ca zs bs P np cp w h)
  clear h
  go_enter Tryd.func102, Tryd.ntmps102
  go_wp2_with fail
  refine HS.out.mono ?_
  rintro e w1 ⟨A', na', ca', P', np', cp', rfl, h2⟩
  have HM : Hid (Mth w base g A 8 ca P np cp ⟨3, mk, zs, []⟩ (.returned (.tuple #[])) w1) := Lib.hid ⟨A', na', ca', P', np', cp', rfl, h2⟩
  clear h2
  go_wp2_with fail
  exact bodyPost_ret (v := .tuple #[]) (results_none rfl _ _ _) rfl HM.out
set_option maxRecDepth 100000 in
set_option maxHeartbeats 1600000 in
theorem addArg_n (g base : Nat) (st : Int) (mk : Bool) (A : Option Addr) (na ca : Nat) (zs bs : List Int) (P : Option Addr) (np cp : Nat) (w : World) (h : Par w base g ⟨st, mk, zs, bs⟩ A na ca P np cp) (hb : base ≤ w.heap.size) (h8 : na < 8) (h0 : 0 < na) :
    Calls Tryd.prog 102 #[.pointer (some ⟨g, 0, none⟩)] w (Mth w base g A na ca P np cp ⟨st, mk, argV zs, bs⟩) := by
  have hg := h.bx.lt
  have c2 : w.cell? ⟨g, 2, none⟩ = some (.slice A na ca) := h.bx.cell 2
  have HE := Lib.hid (argV_some (zs := zs) (by have := h.i.len; simp only at this; omega))
  have HI := Lib.hid h.i
  have H := Lib.hid h
  have e8 : ((na : Int) == 8) = false := by simp; omega
  have e0 : ((na : Int) == 0) = false := by simp; omega
  obtain ⟨i0, hi, hz0, hz1, hz2⟩ := info_parts intInfo
  have HI0 := Lib.hid hi
  have HI1 := Lib.hid hz0
  have HI2 := Lib.hid hz1
  have HI3 := Lib.hid hz2
  clear h hi hz0 hz1 hz2
  rw [HE.out]
  go_enter Tryd.func102, Tryd.ntmps102
  go_wp2_with (at_builtin; refine append_one Tryd.underlying22 HI0.out HI1.out HI2.out HI3.out rfl (by decide) rfl _ _ rfl rfl w.heap.size rfl rfl HI.out rfl (by omega) hb ?_)
  intro A' c' w1 ho1 hg1 hf1
  have hm := mth_app H.out ho1 hg1 hf1
  have x2 : w1.cell? ⟨g, 2, none⟩ = some (.slice A na ca) := hm.1.cell 2
  have f2 := hm.1.free 2
  have HM := Lib.hid hm.2
  clear ho1 hg1 hf1 hm
  go_wp2_with fail
  go_end0
  exact HM.out
set_option maxRecDepth 100000 in
set_option maxHeartbeats 1600000 in
theorem addArg_0 (g base : Nat) (st : Int) (mk : Bool) (A : Option Addr) (ca : Nat) (zs bs : List Int) (P : Option Addr) (np cp : Nat) (w : World) (h : Par w base g ⟨st, mk, zs, bs⟩ A 0 ca P np cp) (hb : base ≤ w.heap.size) :
    Calls Tryd.prog 102 #[.pointer (some ⟨g, 0, none⟩)] w (Mth w base g A 0 ca P np cp ⟨st, mk, argV zs, bs⟩) := by
  have hg := h.bx.lt
  have c2 : w.cell? ⟨g, 2, none⟩ = some (.slice A 0 ca) := h.bx.cell 2
  have f2 := h.bx.free 2
  have HE := Lib.hid (argV_nil (zs := zs) h.i.len)
  have HN := Lib.hid (par_new (d := 0) h hb)
  have HI := Lib.hid HN.out.i
  have HO := Lib.hid (show Only (SP g A 0 ca P np cp) w ((w.setCell ⟨g, 2, none⟩ (.slice (some ⟨w.heap.size, 0, none⟩) 1 1)).alloc (.cells #[.int .i64 0] 3)) from Only.trans (Only.cell_ w g 2 _ (.inl rfl)) (alloc_only _ _))
  have H := Lib.hid h
  obtain ⟨i0, hi, hz0, hz1, hz2⟩ := info_parts intInfo
  have HI0 := Lib.hid hi
  have HI1 := Lib.hid hz0
  have HI2 := Lib.hid hz1
  have HI3 := Lib.hid hz2
  clear h hi hz0 hz1 hz2
  rw [HE.out]
  go_enter Tryd.func102, Tryd.ntmps102
  go_wp2_with (at_builtin; refine append_one Tryd.underlying22 HI0.out HI1.out HI2.out HI3.out rfl (by decide) rfl _ _ rfl rfl (w.heap.size + 1) (by simp) rfl HI.out rfl (by omega) (by simp; omega) ?_)
  intro A' c' w1 ho1 hg1 hf1
  have hm := mth_app HN.out ho1 hg1 (fun i hi => (hf1 i hi).imp id fun h => by simp; omega)
  have x2 : w1.cell? ⟨g, 2, none⟩ = some (.slice (some ⟨w.heap.size, 0, none⟩) 1 1) := hm.1.cell 2
  have g2 := hm.1.free 2
  have HM := Lib.hid (Mth.trans (fun i hi => .inr (by simp only [Blk, Value.ownBlock, Option.some.injEq] at hi; omega)) (fun i hi => .inl hi) HO.out hm.2)
  clear ho1 hg1 hf1 hm
  go_wp2_with fail
  go_end0
  exact HM.out
end Go.Proofs.YtfdbmhelcmifoaaDoor.Vp
