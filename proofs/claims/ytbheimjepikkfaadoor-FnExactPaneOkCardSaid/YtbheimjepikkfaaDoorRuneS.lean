/- The model's RuneRead: the search over the sizes; at every byte slice and every int. -/
import Derived.Test.YtbheimjepikkfaaDoorRuneBs
import Derived.Test.YtbheimjepikkfaaDoorRuneRd
import Derived.Deep.RegionWith
import Derived.Deep.QuietTactic
import Derived.BigQuiet
import Derived.LoopN
import Derived.IntWalk
import Derived.Outline
namespace Go.Proofs.YtbheimjepikkfaaDoor.Rune
open Go.RowKit Go.Proofs.YtbheimjepikkfaaDoor.Bytes Go.Proofs.YtbheimjepikkfaaDoor.RunePl
set_option linter.unusedVariables false
theorem rb_hit1 (b0 : Int) : rb b0 = [b0] ↔ one b0 := by
  unfold one
  by_cases s : showB b0 = true
  · by_cases h1 : b0 < 128
    · rw [rb_one s h1]; simp [(showB_iff b0).1 s, h1]
    · have : ¬ rb b0 = [b0] := by
        by_cases h2 : b0 < 2048
        · rw [rb_two s h1 h2]; simp
        · rw [rb_three s h1 h2]; simp
      simp [this, h1]
  · have s' : showB b0 = false := by simpa using s
    rw [rb_no s']
    have : ¬ showP b0 := fun h => s ((showB_iff b0).2 h)
    simp [this]
theorem rb_hit2 (b0 b1 : Int) : rb (r2 b0 b1) = [b0, b1] ↔ two b0 b1 := by
  unfold two
  generalize r2 b0 b1 = r
  by_cases s : showB r = true
  · have sp := (showB_iff r).1 s
    by_cases h1 : r < 128
    · rw [rb_one s h1]; simp [h1]
    · by_cases h2 : r < 2048
      · rw [rb_two s h1 h2]; simp [sp, h1, h2]
      · rw [rb_three s h1 h2]; simp [h2]
  · have s' : showB r = false := by simpa using s
    rw [rb_no s']
    have : ¬ showP r := fun h => s ((showB_iff r).2 h)
    simp [this]
theorem rb_hit3 (b0 b1 b2 : Int) : rb (r3 b0 b1 b2) = [b0, b1, b2] ↔ three b0 b1 b2 := by
  unfold three
  generalize r3 b0 b1 b2 = r
  by_cases s : showB r = true
  · have sp := (showB_iff r).1 s
    by_cases h1 : r < 128
    · rw [rb_one s h1]; simp <;> omega
    · by_cases h2 : r < 2048
      · rw [rb_two s h1 h2]; simp [h2]
      · rw [rb_three s h1 h2]; simp [sp, h2]
  · have s' : showB r = false := by simpa using s
    rw [rb_no s']
    have : ¬ showP r := fun h => s ((showB_iff r).2 h)
    simp [this]
theorem conv1 (W : World) (g o c : Nat) (z0 : Int) (h0 : W.cell? ⟨g, o, none⟩ = some (.int .u8 z0)) :
    (convert 23 9 (.slice (some ⟨g, o, none⟩) 1 c)).run Tryd.prog W = .ok (.string (strOfNums [z0])) W :=
  run_convert_bytes_arg W 23 5 Tryd.underlying23 Tryd.underlying5 g o 1 c [z0] rfl (fun i hi => by
    obtain rfl : i = 0 := by omega
    simpa using h0) 9 Tryd.underlying9
theorem conv2 (W : World) (g o c : Nat) (z0 z1 : Int) (h0 : W.cell? ⟨g, o, none⟩ = some (.int .u8 z0)) (h1 : W.cell? ⟨g, o + 1, none⟩ = some (.int .u8 z1)) :
    (convert 23 9 (.slice (some ⟨g, o, none⟩) 2 c)).run Tryd.prog W = .ok (.string (strOfNums [z0, z1])) W :=
  run_convert_bytes_arg W 23 5 Tryd.underlying23 Tryd.underlying5 g o 2 c [z0, z1] rfl (fun i hi => by
    match i, hi with
    | 0, _ => simpa using h0
    | 1, _ => simpa using h1) 9 Tryd.underlying9
theorem conv3 (W : World) (g o c : Nat) (z0 z1 z2 : Int) (h0 : W.cell? ⟨g, o, none⟩ = some (.int .u8 z0)) (h1 : W.cell? ⟨g, o + 1, none⟩ = some (.int .u8 z1)) (h2 : W.cell? ⟨g, o + 2, none⟩ = some (.int .u8 z2)) :
    (convert 23 9 (.slice (some ⟨g, o, none⟩) 3 c)).run Tryd.prog W = .ok (.string (strOfNums [z0, z1, z2])) W :=
  run_convert_bytes_arg W 23 5 Tryd.underlying23 Tryd.underlying5 g o 3 c [z0, z1, z2] rfl (fun i hi => by
    match i, hi with
    | 0, _ => simpa using h0
    | 1, _ => simpa using h1
    | 2, _ => simpa using h2) 9 Tryd.underlying9
theorem bl_drewN {B : Nat} {a w : World} (h : Below B a w) (n : Nat) : Below B a (w.drewN n) := h.trans ⟨rfl, rfl, rfl, Nat.le_refl _, fun _ _ => rfl⟩
theorem rb_rng (r : Int) : Rng (rb r) := by
  intro z hz
  cases hs : showB r with
  | false => rw [rb_no hs] at hz; simp at hz
  | true =>
    have hb := show_bd hs
    by_cases c1 : r < 128
    · rw [rb_one hs c1] at hz; simp at hz; omega
    · by_cases c2 : r < 2048
      · rw [rb_two hs c1 c2] at hz; simp at hz; omega
      · rw [rb_three hs c1 c2] at hz; simp at hz; omega
theorem str_inj {xs ys : List Int} (hx : Rng xs) (hy : Rng ys) (h : strOfNums xs = strOfNums ys) : xs = ys := by
  have hl : xs.length = ys.length := by rw [← strOfNums_size, h, strOfNums_size]
  refine List.ext_getElem hl fun j h1 h2 => ?_
  have ex := str_get xs hx j
  have ey := str_get ys hy j
  rw [h, ey] at ex
  simpa [List.getD, h1, h2] using ex.symm
theorem toList_inj {a b : ByteArray} (h : a.toList = b.toList) : a = b := by
  rw [Lib.toList_data, Lib.toList_data] at h
  exact ByteArray.ext (by simpa using h)
/-- what the smaller sizes have been found not to be -/
def Miss (k : Nat) (b0 b1 b2 : Int) : Prop := (1 < k → ¬ one b0) ∧ (2 < k → ¬ two b0 b1) ∧ (3 < k → ¬ three b0 b1 b2)

set_option maxRecDepth 100000 in
set_option maxHeartbeats 3200000 in
theorem spec_RuneRead_any (A : Option Addr) (n c : Nat) (zs : List Int) (at_ : Int) (w : World) (hr : Rd w w.heap.size A zs) (hg : Rng zs) (hl : zs.length = n) (hn : n ≤ 1099511627776) (hc : n ≤ c) :
    Calls Tryd.prog 61 #[.slice A n c, .int .i64 at_] w fun e w' => e = .returned (.tuple #[.int .i64 (rdV zs at_).1, .int .i64 (rdV zs at_).2]) ∧ Below w.heap.size w w' := by
  by_cases hat : 0 ≤ at_ ∧ at_ < n
  · obtain ⟨a, rfl⟩ := Int.eq_ofNat_of_zero_le hat.1
    have ha : a < n := by omega
    obtain ⟨b, o, rfl, hB, hcell⟩ := hr (by omega)
    have HV := Lib.hid (rdV_yes (zs := zs) (k := a) (by omega))
    have HQ := Lib.hid (fun j (h : a + j < n) => hcell (a + j) (by omega))
    have g0 := hg.at_ a
    have g1 := hg.at_ (a + 1)
    have g2 := hg.at_ (a + 2)
    rw [hl] at HV
    have q0 := HQ.out 0 (by omega)
    simp only [Nat.add_zero] at q0
    have Q1 := Lib.hid (fun h => HQ.out 1 h)
    have Q2 := Lib.hid (fun h => HQ.out 2 h)
    generalize zs.getD a 0 = b0 at *
    generalize zs.getD (a + 1) 0 = b1 at *
    generalize zs.getD (a + 2) 0 = b2 at *
    have Q0 := Lib.hid q0
    clear hr hg hcell HQ hat q0
    have d1 : decide ((a : Int) < 0) = false := decide_eq_false (by omega)
    have d2 : decide (n ≤ a) = false := decide_eq_false (by omega)
    have d3 : decide ((n : Int) ≤ (a : Int)) = false := decide_eq_false (by omega)
    go_enter Tryd.func61, Tryd.ntmps61
    go_wp2_with fail
    go_loopw [6] (fun s wr => ∃ k : Nat, 1 ≤ k ∧ k ≤ 4 ∧ s = .int .i64 k ∧ Miss k b0 b1 b2 ∧ Below w.heap.size w wr) (fun s _ => 4 - (intOf s).toNat)
    case atStart => exact ⟨1, by omega, by omega, rfl, ⟨fun h => by omega, fun h => by omega, fun h => by omega⟩, Below.refl _ _⟩
    case round =>
      obtain ⟨k, hk1, hk4, rfl, hm, hb⟩ := hrel
      have HM := Lib.hid hm
      have HB := Lib.hid hb
      have hBw : b < wr.heap.size := by have := hb.size; omega
      clear hm hb
      by_cases hout : k = 4 ∨ n - a < k
      · have HS := Lib.hid (rrS_no (n := n - a) (b0 := b0) (b1 := b1) (b2 := b2) (HM.out.1 (by omega)) (by rintro ⟨h1, h2⟩; exact HM.out.2.1 (by omega) h2) (by rintro ⟨h1, h2⟩; exact HM.out.2.2 (by omega) h2))
        rcases hout with rfl | hout
        · go_wp2_with fail
          go_ret2
          exact ⟨ret_two (by rw [HV.out, HS.out]) (by rw [HV.out, HS.out]), HB.out⟩
        · have h1 : ¬ ((k : Int) ≤ (n : Int) - (a : Int)) := by omega
          by_cases h3 : (k : Int) ≤ 3
          · go_wp2_with fail
            go_ret2
            exact ⟨ret_two (by rw [HV.out, HS.out]) (by rw [HV.out, HS.out]), HB.out⟩
          · go_wp2_with fail
            go_ret2
            exact ⟨ret_two (by rw [HV.out, HS.out]) (by rw [HV.out, HS.out]), HB.out⟩
      · have hin : k ≤ n - a := by omega
        have h3 : k = 1 ∨ k = 2 ∨ k = 3 := by omega
        clear hout hk1 hk4
        rcases h3 with rfl | rfl | rfl
        · have q0 := (HB.out.cell (p := ⟨b, o + a, none⟩) hB).trans Q0.out
          go_wp2_with fail
          go_region_with (fail)
          all_goals
            go_wp2_with fail
            refine wp_loop_rounds 1 ?_
            rw [rounds_succ]
            go_wp2_with fail
            refine (spec_RuneBytes_any b0 _).mono ?_
            rintro e v1 ⟨A1, n1, c1, rfl, ho, hx⟩
            have HB1 := Lib.hid ((HB.out.alloc (by have := HB.out.size; omega) (.cells #[.int .i64 0, .int .i64 0, .int .i64 192, .int .i64 224] 3)).drew.trans (Below.mono hx (by have := HB.out.size; simp; omega)))
            have HM1 := HB1.out.size
            have p0 : v1.cell? ⟨b, o + a, none⟩ = some (.int .u8 b0) := (HB1.out.cell (p := ⟨b, o + a, none⟩) hB).trans Q0.out
            have hkc : a + 1 ≤ c := by omega
            clear hx
            by_cases hit : rb b0 = [b0]
            · rw [hit] at ho
              obtain rfl : 1 = n1 := ho.len
              obtain ⟨g, rfl, hg1, hg2⟩ := ho.head (by omega)
              have y0 : v1.cell? ⟨g, 0, none⟩ = some (.int .u8 b0) := (ho.spot (k := 0) (by omega)).1
              have cv1 := fun W => conv1 W g 0 c1 b0
              have cv2 := fun W => conv1 W b (o + a) (c - a) b0
              have HH := Lib.hid (rrS_one (n := n - a) (b1 := b1) (b2 := b2) ((rb_hit1 b0).1 hit))
              clear hit ho
              go_wp2_with fail
              go_quiet (fail)
              go_wp2_with fail
              go_ret2
              exact ⟨ret_two (congrArg Prod.fst (HV.out.trans HH.out)).symm (congrArg Prod.snd (HV.out.trans HH.out)).symm, bl_drewN HB1.out nq⟩
            · have HM2 : Hid (Miss 2 b0 b1 b2) := Lib.hid (show Miss 2 b0 b1 b2 from ⟨fun _ h => hit ((rb_hit1 b0).2 h), fun h => by omega, fun h => by omega⟩)
              by_cases hlen : n1 = 1
              · exfalso
                refine hit ?_
                have h1 := ho.len
                rw [hlen] at h1
                cases hs : showB b0 with
                | false => rw [rb_no hs] at h1; simp at h1
                | true =>
                  by_cases c1 : b0 < 128
                  · exact rb_one hs c1
                  · by_cases c2 : b0 < 2048
                    · rw [rb_two hs c1 c2] at h1; simp at h1
                    · rw [rb_three hs c1 c2] at h1; simp at h1
              · have hl3 : n1 ≤ 3 := by have h1 := ho.len; have h2 := rb_len b0; omega
                have hne : ((n1 : Int) == 1) = false := by simp; omega
                clear hit ho hlen
                go_wp2_with fail
                go_quiet (fail)
                go_wp2_with fail
                go_roundw
                case rel => exact ⟨2, by omega, by omega, rfl, HM2.out, bl_drewN HB1.out nq⟩
                case measure => simp [intOf]
        · have q0 := (HB.out.cell (p := ⟨b, o + a, none⟩) hB).trans Q0.out
          have q1 := (HB.out.cell (p := ⟨b, o + (a + 1), none⟩) hB).trans (Q1.out (by omega))
          go_wp2_with fail
          go_region_with (fail)
          all_goals
            go_wp2_with fail
            refine wp_loop_rounds 2 ?_
            rw [rounds_succ]
            go_wp2_with fail
            rw [rounds_succ]
            go_wp2_with fail
            refine (spec_RuneBytes_any (r2 b0 b1) _).mono ?_
            rintro e v1 ⟨A1, n1, c1, rfl, ho, hx⟩
            have HB1 := Lib.hid ((HB.out.alloc (by have := HB.out.size; omega) (.cells #[.int .i64 0, .int .i64 0, .int .i64 192, .int .i64 224] 3)).drew.trans (Below.mono hx (by have := HB.out.size; simp; omega)))
            have HM1 := HB1.out.size
            have p0 : v1.cell? ⟨b, o + a, none⟩ = some (.int .u8 b0) := (HB1.out.cell (p := ⟨b, o + a, none⟩) hB).trans Q0.out
            have p1 : v1.cell? ⟨b, o + (a + 1), none⟩ = some (.int .u8 b1) := (HB1.out.cell (p := ⟨b, o + (a + 1), none⟩) hB).trans (Q1.out (by omega))
            have p1' : v1.cell? ⟨b, o + a + 1, none⟩ = some (.int .u8 b1) := by rw [Nat.add_assoc]; exact p1
            have hkc : a + 2 ≤ c := by omega
            clear hx
            by_cases hit : rb (r2 b0 b1) = [b0, b1]
            · rw [hit] at ho
              obtain rfl : 2 = n1 := ho.len
              obtain ⟨g, rfl, hg1, hg2⟩ := ho.head (by omega)
              have y0 : v1.cell? ⟨g, 0, none⟩ = some (.int .u8 b0) := (ho.spot (k := 0) (by omega)).1
              have y1 : v1.cell? ⟨g, 1, none⟩ = some (.int .u8 b1) := (ho.spot (k := 1) (by omega)).1
              have cv1 := fun W => conv2 W g 0 c1 b0 b1
              have cv2 := fun W => conv2 W b (o + a) (c - a) b0 b1
              have HH := Lib.hid (rrS_two (n := n - a) (b2 := b2) (HM.out.1 (by omega)) ⟨by omega, (rb_hit2 b0 b1).1 hit⟩)
              clear hit ho
              go_wp2_with fail
              go_quiet (fail)
              go_wp2_with fail
              go_ret2
              exact ⟨ret_two (congrArg Prod.fst (HV.out.trans HH.out)).symm (congrArg Prod.snd (HV.out.trans HH.out)).symm, bl_drewN HB1.out nq⟩
            · have HM2 : Hid (Miss 3 b0 b1 b2) := Lib.hid (show Miss 3 b0 b1 b2 from ⟨fun _ => HM.out.1 (by omega), fun _ h => hit ((rb_hit2 b0 b1).2 h), fun h => by omega⟩)
              by_cases hlen : n1 = 2
              · subst hlen
                obtain ⟨x0, x1, hxs⟩ : ∃ x0 x1, rb (r2 b0 b1) = [x0, x1] := by
                  have h1 := ho.len
                  match rb (r2 b0 b1), h1 with
                  | [x0, x1], _ => exact ⟨x0, x1, rfl⟩
                have hrx := rb_rng (r2 b0 b1)
                rw [hxs] at ho hit hrx
                have hgb : Rng [b0, b1] := by intro z hz; simp at hz; rcases hz with rfl | rfl <;> assumption
                have hne : strOfNums [x0, x1] ≠ strOfNums [b0, b1] := fun e => hit (str_inj hrx hgb e)
                have hnb : ((strOfNums [x0, x1]).toList == (strOfNums [b0, b1]).toList) = false := by simpa using fun e => hne (toList_inj e)
                have HN := Lib.hid hnb
                obtain ⟨g, rfl, hg1, hg2⟩ := ho.head (by omega)
                have y0 : v1.cell? ⟨g, 0, none⟩ = some (.int .u8 x0) := (ho.spot (k := 0) (by omega)).1
                have y1 : v1.cell? ⟨g, 1, none⟩ = some (.int .u8 x1) := (ho.spot (k := 1) (by omega)).1
                have cv1 := fun W => conv2 W g 0 c1 x0 x1
                have cv2 := fun W => conv2 W b (o + a) (c - a) b0 b1
                clear hit ho hxs hrx hgb hne
                go_wp2_with fail
                go_quiet (fail)
                go_wp2_with fail
                go_roundw
                case rel => exact ⟨3, by omega, by omega, rfl, HM2.out, bl_drewN HB1.out nq⟩
                case measure => simp [intOf]
              · have hl3 : n1 ≤ 3 := by have h1 := ho.len; have h2 := rb_len (r2 b0 b1); omega
                have hne : ((n1 : Int) == 2) = false := by simp; omega
                clear hit ho hlen
                go_wp2_with fail
                go_quiet (fail)
                go_wp2_with fail
                go_roundw
                case rel => exact ⟨3, by omega, by omega, rfl, HM2.out, bl_drewN HB1.out nq⟩
                case measure => simp [intOf]
        · have q0 := (HB.out.cell (p := ⟨b, o + a, none⟩) hB).trans Q0.out
          have q1 := (HB.out.cell (p := ⟨b, o + (a + 1), none⟩) hB).trans (Q1.out (by omega))
          have q2 := (HB.out.cell (p := ⟨b, o + (a + 2), none⟩) hB).trans (Q2.out (by omega))
          go_wp2_with fail
          go_region_with (fail)
          all_goals
            go_wp2_with fail
            refine wp_loop_rounds 3 ?_
            rw [rounds_succ]
            go_wp2_with fail
            rw [rounds_succ]
            go_wp2_with fail
            rw [rounds_succ]
            go_wp2_with fail
            refine (spec_RuneBytes_any (r3 b0 b1 b2) _).mono ?_
            rintro e v1 ⟨A1, n1, c1, rfl, ho, hx⟩
            have HB1 := Lib.hid ((HB.out.alloc (by have := HB.out.size; omega) (.cells #[.int .i64 0, .int .i64 0, .int .i64 192, .int .i64 224] 3)).drew.trans (Below.mono hx (by have := HB.out.size; simp; omega)))
            have HM1 := HB1.out.size
            have p0 : v1.cell? ⟨b, o + a, none⟩ = some (.int .u8 b0) := (HB1.out.cell (p := ⟨b, o + a, none⟩) hB).trans Q0.out
            have p1 : v1.cell? ⟨b, o + (a + 1), none⟩ = some (.int .u8 b1) := (HB1.out.cell (p := ⟨b, o + (a + 1), none⟩) hB).trans (Q1.out (by omega))
            have p2 : v1.cell? ⟨b, o + (a + 2), none⟩ = some (.int .u8 b2) := (HB1.out.cell (p := ⟨b, o + (a + 2), none⟩) hB).trans (Q2.out (by omega))
            have p1' : v1.cell? ⟨b, o + a + 1, none⟩ = some (.int .u8 b1) := by rw [Nat.add_assoc]; exact p1
            have p2' : v1.cell? ⟨b, o + a + 2, none⟩ = some (.int .u8 b2) := by rw [Nat.add_assoc]; exact p2
            have hkc : a + 3 ≤ c := by omega
            clear hx
            by_cases hit : rb (r3 b0 b1 b2) = [b0, b1, b2]
            · rw [hit] at ho
              obtain rfl : 3 = n1 := ho.len
              obtain ⟨g, rfl, hg1, hg2⟩ := ho.head (by omega)
              have y0 : v1.cell? ⟨g, 0, none⟩ = some (.int .u8 b0) := (ho.spot (k := 0) (by omega)).1
              have y1 : v1.cell? ⟨g, 1, none⟩ = some (.int .u8 b1) := (ho.spot (k := 1) (by omega)).1
              have y2 : v1.cell? ⟨g, 2, none⟩ = some (.int .u8 b2) := (ho.spot (k := 2) (by omega)).1
              have cv1 := fun W => conv3 W g 0 c1 b0 b1 b2
              have cv2 := fun W => conv3 W b (o + a) (c - a) b0 b1 b2
              have HH := Lib.hid (rrS_three (n := n - a) (HM.out.1 (by omega)) (fun h => HM.out.2.1 (by omega) h.2) ⟨by omega, (rb_hit3 b0 b1 b2).1 hit⟩)
              clear hit ho
              go_wp2_with fail
              go_quiet (fail)
              go_wp2_with fail
              go_ret2
              exact ⟨ret_two (congrArg Prod.fst (HV.out.trans HH.out)).symm (congrArg Prod.snd (HV.out.trans HH.out)).symm, bl_drewN HB1.out nq⟩
            · have HM2 : Hid (Miss 4 b0 b1 b2) := Lib.hid (show Miss 4 b0 b1 b2 from ⟨fun _ => HM.out.1 (by omega), fun _ => HM.out.2.1 (by omega), fun _ h => hit ((rb_hit3 b0 b1 b2).2 h)⟩)
              by_cases hlen : n1 = 3
              · subst hlen
                obtain ⟨x0, x1, x2, hxs⟩ : ∃ x0 x1 x2, rb (r3 b0 b1 b2) = [x0, x1, x2] := by
                  have h1 := ho.len
                  match rb (r3 b0 b1 b2), h1 with
                  | [x0, x1, x2], _ => exact ⟨x0, x1, x2, rfl⟩
                have hrx := rb_rng (r3 b0 b1 b2)
                rw [hxs] at ho hit hrx
                have hgb : Rng [b0, b1, b2] := by intro z hz; simp at hz; rcases hz with rfl | rfl | rfl <;> assumption
                have hne : strOfNums [x0, x1, x2] ≠ strOfNums [b0, b1, b2] := fun e => hit (str_inj hrx hgb e)
                have hnb : ((strOfNums [x0, x1, x2]).toList == (strOfNums [b0, b1, b2]).toList) = false := by simpa using fun e => hne (toList_inj e)
                have HN := Lib.hid hnb
                obtain ⟨g, rfl, hg1, hg2⟩ := ho.head (by omega)
                have y0 : v1.cell? ⟨g, 0, none⟩ = some (.int .u8 x0) := (ho.spot (k := 0) (by omega)).1
                have y1 : v1.cell? ⟨g, 1, none⟩ = some (.int .u8 x1) := (ho.spot (k := 1) (by omega)).1
                have y2 : v1.cell? ⟨g, 2, none⟩ = some (.int .u8 x2) := (ho.spot (k := 2) (by omega)).1
                have cv1 := fun W => conv3 W g 0 c1 x0 x1 x2
                have cv2 := fun W => conv3 W b (o + a) (c - a) b0 b1 b2
                clear hit ho hxs hrx hgb hne
                go_wp2_with fail
                go_quiet (fail)
                go_wp2_with fail
                go_roundw
                case rel => exact ⟨4, by omega, by omega, rfl, HM2.out, bl_drewN HB1.out nq⟩
                case measure => simp [intOf]
              · have hl3 : n1 ≤ 3 := by have h1 := ho.len; have h2 := rb_len (r3 b0 b1 b2); omega
                have hne : ((n1 : Int) == 3) = false := by simp; omega
                clear hit ho hlen
                go_wp2_with fail
                go_quiet (fail)
                go_wp2_with fail
                go_roundw
                case rel => exact ⟨4, by omega, by omega, rfl, HM2.out, bl_drewN HB1.out nq⟩
                case measure => simp [intOf]
  · have HV := Lib.hid (rdV_no (zs := zs) (at_ := at_) (by rw [hl]; exact hat))
    have h : at_ < 0 ∨ (n : Int) ≤ at_ := by omega
    clear hat
    rcases h with h | h
    all_goals
      go_enter Tryd.func61, Tryd.ntmps61
      go_wp2_with fail
      go_ret2
      exact ⟨ret_two (by rw [HV.out]) (by rw [HV.out]), Below.refl _ _⟩
end Go.Proofs.YtbheimjepikkfaaDoor.Rune
