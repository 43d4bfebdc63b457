/- The program's change of a file: the write. -/
import Derived.Test.YtfkdfabbpebljaaGreatKitF
import Derived.Test.YtfkdfabbpebljaaGreatExecT4
import Derived.Test.YtfkdfabbpebljaaGreatDoCode
import Derived.Test.YtfkdfabbpebljaaGreatImplFiles
import Derived.Test.YtfkdfabbpebljaaGreatKitC
import Derived.Test.YtfkdfabbpebljaaGreatKitE
import Derived.Deep.RegionWith
import Derived.Deep.RegionLaw
import Derived.Deep.Cut
import Derived.IntWalk
import Derived.StillTailTactics
import Derived.Outline
namespace Go.Proofs.YtfkdfabbpebljaaGreat.DOk
open Go.RowKit Go.Proofs.YtfkdfabbpebljaaGreat.Bytes Go.Proofs.YtfkdfabbpebljaaGreat.Rows_ Go.Maps Go.WideMaps
set_option linter.unusedVariables false

theorem rd_take {w : World} {B : Nat} {A : Option Addr} {zs : List Int} (h : Rd w B A zs) (k : Nat) : Rd w B A (zs.take k) := by
  intro hn
  have hn' : 0 < zs.length := by rw [List.length_take] at hn; omega
  obtain ⟨b, o, e, hlt, hc⟩ := h hn'
  refine ⟨b, o, e, hlt, fun j hj => ?_⟩
  have hj' : j < zs.length ∧ j < k := by rw [List.length_take] at hj; omega
  rw [hc j hj'.1]
  simp [List.getD, hj'.2]
/-- what a write leaves: the file grown by the bytes that went in, elsewhere perhaps -/
def WrD (w' : World) (base g nf cf : Nat) (pre post : List FileD) (f : FileD) (sz : Nat) (ys : List Int) (K : Option Addr) (nk ck : Nat) (ks : List LinkD) (T : Option Addr) (nt ct : Nat) (ts : List TurnD) : Prop :=
  ∃ A' c', OwnD w' base (some ⟨g, 0, none⟩) nf cf (pre ++ [(⟨f.id, A', f.n + sz, c', f.safe, f.bytes ++ ys.take sz⟩ : FileD)] ++ post) K nk ck ks T nt ct ts
theorem WrD.of {w' : World} {base g nf cf : Nat} {pre post : List FileD} {f : FileD} {sz : Nat} {ys : List Int} {K : Option Addr} {nk ck : Nat} {ks : List LinkD} {T : Option Addr} {nt ct : Nat} {ts : List TurnD} {A' : Option Addr} {c' : Nat} (h : OwnD w' base (some ⟨g, 0, none⟩) nf cf (pre ++ [(⟨f.id, A', f.n + sz, c', f.safe, f.bytes ++ ys.take sz⟩ : FileD)] ++ post) K nk ck ks T nt ct ts) : WrD w' base g nf cf pre post f sz ys K nk ck ks T nt ct ts := ⟨A', c', h⟩
set_option maxRecDepth 100000 in
set_option maxHeartbeats 6400000 in
theorem write_any (b base B : Nat) (room fuse next : Int) (g nf cf : Nat) (K : Option Addr) (nk ck : Nat) (T : Option Addr) (nt ct : Nat) (pre post : List FileD) (f : FileD) (ks : List LinkD) (ts : List TurnD) (i0 : Nat) (z : Int) (w : World)
    (hb : BoxW w b #[.int .i64 room, .int .i64 fuse, .int .i64 next, .slice (some ⟨g, 0, none⟩) nf cf, .slice K nk ck, .slice T nt ct]) (ho : OwnD w base (some ⟨g, 0, none⟩) nf cf (pre ++ [f] ++ post) K nk ck ks T nt ct ts) (hB : B ≤ b) (hB2 : B ≤ base) (hbw : base ≤ w.heap.size) (hnf : nf ≤ 2000) (hi0 : pre.length = i0) (hno : ∀ x ∈ pre, x.id ≠ z) (hyes : f.id = z) (A : Option Addr) (n c sz : Nat) (ys : List Int) (hr : Rd w w.heap.size A ys) (hl : ys.length = n) (hA : A = none → n = 0 ∧ c = 0) (hnc : n ≤ c) (hn : n ≤ 1048576) (hu : ((usedD (pre ++ [f] ++ post) : Nat) : Int) ≤ room) (hroom : room ≤ 1048576) (hfn : f.n ≤ 1099511627776)
    (hsz : (if room - ((usedD (pre ++ [f] ++ post) : Nat) : Int) < (n : Int) then room - ((usedD (pre ++ [f] ++ post) : Nat) : Int) else (n : Int)) = (sz : Int)) (hszn : sz ≤ n) :
    Calls Tryz.prog 72 #[.pointer (some ⟨b, 0, none⟩), .int .i64 z, .slice A n c] w fun e w' =>
      e = .returned (.int .i64 (if sz < n then 5 else 0)) ∧ Below B w w' ∧ BoxW w' b #[.int .i64 room, .int .i64 fuse, .int .i64 next, .slice (some ⟨g, 0, none⟩) nf cf, .slice K nk ck, .slice T nt ct] ∧ WrD w' base g nf cf pre post f sz ys K nk ck ks T nt ct ts := by
  have hnl : (pre ++ [f] ++ post).length = nf := by have := ho.f.1; rw [flat_len 3 _ (file_len _), List.length_map] at this; omega
  have HX := Lib.hid hb
  have HO := Lib.hid ho
  have x0 : w.cell? ⟨b, 0, none⟩ = some (.int .i64 room) := hb.cell 0
  have x1 : w.cell? ⟨b, 1, none⟩ = some (.int .i64 fuse) := hb.cell 1
  have x2 : w.cell? ⟨b, 2, none⟩ = some (.int .i64 next) := hb.cell 2
  have x3 : w.cell? ⟨b, 3, none⟩ = some (.slice (some ⟨g, 0, none⟩) nf cf) := hb.cell 3
  have x4 : w.cell? ⟨b, 4, none⟩ = some (.slice K nk ck) := hb.cell 4
  have x5 : w.cell? ⟨b, 5, none⟩ = some (.slice T nt ct) := hb.cell 5
  have hlt := hb.lt
  have hgb : B ≤ g := Nat.le_trans hB2 (World.ownsRow.lt ho.f g rfl).1
  have HU := Lib.hid (usedRoom_any room fuse next (some ⟨g, 0, none⟩) nf cf K nk ck T nt ct (pre ++ [f] ++ post) w.drew ho.f.rd hnl (by omega) (by omega))
  have HR := Lib.hid (rd_take hr sz)
  have HLT := Lib.hid (show (ys.take sz).length = sz by rw [List.length_take]; omega)
  have HNO := Lib.hid hno
  have HFT := Lib.hid (fun (V : World) (h : OwnF V base (some ⟨g, 0, none⟩) nf cf (pre ++ [f] ++ post)) => fw_any (z := z) h hnf hi0 hno hyes)
  have HH := Lib.hid hyes
  have HA := Lib.hid hA
  clear hb ho hr hl hno hyes hA
  generalize usedD (pre ++ [f] ++ post) = U at *
  have hs1 : IntKind.i64.wrap (room - (U : Int)) = room - (U : Int) := IntWalk.i64_in _ (by omega)
  go_enter Tryz.func72, Tryz.ntmps72
  go_upto_region 1 with fail
  go_cut [7] (fun s wx => s = .int .i64 (sz : Int) ∧ Below w.heap.size w wx)
  case first =>
    go_region_with ((go_at_call 82; refine HU.out.mono ?_; rintro e v1 ⟨rfl, hb1⟩; have x0' : v1.cell? ⟨b, 0, none⟩ = some (.int .i64 room) := (hb1.cell (p := ⟨b, 0, none⟩) hlt).trans x0; have HB1 := Lib.hid ((Below.refl w.heap.size w).drew.trans hb1); clear hb1))
    all_goals
      go_wp2_with fail
      go_meet
      case rel => exact ⟨by rw [← hsz], HB1.out⟩
  case rest =>
    obtain ⟨rfl, hb1⟩ := hcut
    have HX1 := Lib.hid (HX.out.below hb1 hlt)
    have HO1 := Lib.hid (HO.out.below (Nat.le_refl _) hb1)
    have HR1 := Lib.hid ((HR.out.below (Nat.le_refl _) hb1).more hb1.size)
    have HB1 := Lib.hid (hb1.mono (Nat.le_trans hB2 hbw))
    have hz1 := hb1.size
    clear x0 x1 x2 x4 x5 x3 HX HO HR HU hb1 hs1 hsz
    have x3 : wc.cell? ⟨b, 3, none⟩ = some (.slice (some ⟨g, 0, none⟩) nf cf) := HX1.out.cell 3
    have hcb : b < wc.heap.size := HX1.out.lt
    go_wp2_with fail
    refine (HFT.out wc HO1.out.f).mono ?_
    rintro e v2 ⟨rfl, hb2⟩
    rw [Nat.zero_add]
    have HX2 := Lib.hid (HX1.out.below hb2 hcb)
    have HO2 := Lib.hid (HO1.out.below (Nat.le_refl _) hb2)
    have HR2 := Lib.hid ((HR1.out.below (Nat.le_refl _) hb2).more hb2.size)
    have hbb2 : base ≤ v2.heap.size := by have := hb2.size; omega
    have HB2 := Lib.hid (HB1.out.trans (hb2.mono (by omega)))
    clear hb2 x3 HX1 HO1 HR1 HB1
    have HFM := Lib.hid (show f ∈ (pre ++ [f] ++ post) by simp)
    have c1 : v2.cell? ⟨g, i0 * 3 + 1, none⟩ = some (.slice f.A f.n f.c) := file_cell HO2.out.f i0 hi0 1 (by omega) _ rfl
    have hgv : g < v2.heap.size := (World.ownsRow.lt HO2.out.f g rfl).2
    have hcs : sz ≤ c := by omega
    have HOB := Lib.hid (show Own v2.drew base f.A f.n f.c f.bytes from HO2.out.b.1 f HFM.out)
    have HRD := Lib.hid (show Rd v2.drew v2.heap.size A (ys.take sz) from HR2.out)
    have hbd := Lib.hid (show base ≤ v2.drew.heap.size from hbb2)
    clear HFT
    by_cases hsn : sz < n
    · have HI := Lib.hid (show (if sz < n then (5 : Int) else 0) = 5 from if_pos hsn)
      have hsb : decide (sz < n) = true := decide_eq_true hsn
      rcases A with _ | ad
      · obtain ⟨e1, e2⟩ := HA.out rfl
        exfalso; omega
      · go_wp2_with fail
        go_region_law (refine step_body rfl _ _ rfl rfl rfl HOB.out HRD.out (fun h => by cases h) HLT.out (by omega) (by omega) hbd.out ?_; intro A' c' w1 hB1' hbw1 hgw1 hnew1; have hd := ownD_body HX2.out.drew HO2.out.drew i0 hi0 hB1' hgw1 hnew1; have on1 : Only (fun i => (Value.slice f.A f.n f.c).ownBlock = some i) v2.drew w1 := Only.grown hgw1 fun i hi => hi; have hF1 : OwnF w1 base (some ⟨g, 0, none⟩) nf cf (pre ++ [f] ++ post) := Only.own HO2.out.drew.f on1 (fun i hi e => own_ne HO2.out.f (HO2.out.b.1 f HFM.out) (by decide) i hi e); have c1' : w1.cell? ⟨g, i0 * 3 + 1, none⟩ = some (.slice f.A f.n f.c) := file_cell hF1 i0 hi0 1 (by omega) _ rfl; have f1' : w1.frozen? ⟨g, i0 * 3 + 1, none⟩ = false := World.ownsRow.frozenAt (h := hF1) (i0 * 3 + 1); have HD := Lib.hid hd; have HB3 := Lib.hid ((HB2.out.drew).trans (hbw1.mono hB2)); clear hd on1 hF1 hB1' hbw1 hgw1 hnew1)
        all_goals
          go_wp2_with fail
          go_ret
          exact ⟨rfl, HB3.out.setCell hgb _, HD.out.1, WrD.of HD.out.2⟩
    · have HI := Lib.hid (show (if sz < n then (5 : Int) else 0) = 0 from if_neg hsn)
      have hsb : decide (sz < n) = false := decide_eq_false hsn
      rcases A with _ | ad
      · obtain ⟨e1, e2⟩ := HA.out rfl
        subst e1 e2
        obtain rfl : sz = 0 := by omega
        go_wp2_with fail
        go_region_law (refine step_body rfl _ _ rfl rfl rfl HOB.out HRD.out (fun h => ⟨rfl, rfl⟩) HLT.out (by omega) (by omega) hbd.out ?_; intro A' c' w1 hB1' hbw1 hgw1 hnew1; have hd := ownD_body HX2.out.drew HO2.out.drew i0 hi0 hB1' hgw1 hnew1; have on1 : Only (fun i => (Value.slice f.A f.n f.c).ownBlock = some i) v2.drew w1 := Only.grown hgw1 fun i hi => hi; have hF1 : OwnF w1 base (some ⟨g, 0, none⟩) nf cf (pre ++ [f] ++ post) := Only.own HO2.out.drew.f on1 (fun i hi e => own_ne HO2.out.f (HO2.out.b.1 f HFM.out) (by decide) i hi e); have c1' : w1.cell? ⟨g, i0 * 3 + 1, none⟩ = some (.slice f.A f.n f.c) := file_cell hF1 i0 hi0 1 (by omega) _ rfl; have f1' : w1.frozen? ⟨g, i0 * 3 + 1, none⟩ = false := World.ownsRow.frozenAt (h := hF1) (i0 * 3 + 1); have HD := Lib.hid hd; have HB3 := Lib.hid ((HB2.out.drew).trans (hbw1.mono hB2)); clear hd on1 hF1 hB1' hbw1 hgw1 hnew1)
        all_goals
          go_wp2_with fail
          go_ret
          exact ⟨rfl, HB3.out.setCell hgb _, HD.out.1, WrD.of HD.out.2⟩
      · go_wp2_with fail
        go_region_law (refine step_body rfl _ _ rfl rfl rfl HOB.out HRD.out (fun h => by cases h) HLT.out (by omega) (by omega) hbd.out ?_; intro A' c' w1 hB1' hbw1 hgw1 hnew1; have hd := ownD_body HX2.out.drew HO2.out.drew i0 hi0 hB1' hgw1 hnew1; have on1 : Only (fun i => (Value.slice f.A f.n f.c).ownBlock = some i) v2.drew w1 := Only.grown hgw1 fun i hi => hi; have hF1 : OwnF w1 base (some ⟨g, 0, none⟩) nf cf (pre ++ [f] ++ post) := Only.own HO2.out.drew.f on1 (fun i hi e => own_ne HO2.out.f (HO2.out.b.1 f HFM.out) (by decide) i hi e); have c1' : w1.cell? ⟨g, i0 * 3 + 1, none⟩ = some (.slice f.A f.n f.c) := file_cell hF1 i0 hi0 1 (by omega) _ rfl; have f1' : w1.frozen? ⟨g, i0 * 3 + 1, none⟩ = false := World.ownsRow.frozenAt (h := hF1) (i0 * 3 + 1); have HD := Lib.hid hd; have HB3 := Lib.hid ((HB2.out.drew).trans (hbw1.mono hB2)); clear hd on1 hF1 hB1' hbw1 hgw1 hnew1)
        all_goals
          go_wp2_with fail
          go_ret
          exact ⟨rfl, HB3.out.setCell hgb _, HD.out.1, WrD.of HD.out.2⟩
end Go.Proofs.YtfkdfabbpebljaaGreat.DOk
