/- The model's helpers over one turn: is it applicable, and what it makes of the links. -/
import Derived.Test.YtckiloacbanbmaaDoorWith
import Derived.Test.YtckiloacbanbmaaDoorNameOk
import Derived.Deep.RegionWith
namespace Go.Proofs.YtckiloacbanbmaaDoor.DOk
open Go.RowKit Go.Proofs.YtckiloacbanbmaaDoor.Bytes Go.Proofs.YtckiloacbanbmaaDoor.Rows_
open Go.Proofs.YtckiloacbanbmaaDoor.Made (madeB nb)
set_option linter.unusedVariables false

def tokS (there nk tk te eq : Bool) (kind id : Int) : Bool :=
  nk && (if kind = 1 then te && decide (0 < id) && !there else if kind = 4 then tk && !eq && decide (id = 0) && there else if kind = 5 then te && decide (id = 0) && there else false)
def turnOkS (ks : List LinkD) (t : TurnD) : Bool :=
  tokS (decide (0 < findD ks t.name.toList)) (madeB nb 16 t.name.data.toList) (madeB nb 16 t.to_.data.toList) t.to_.toList.isEmpty (t.to_.toList == t.name.toList) t.kind t.id
theorem tokS_no {nk tk te eq there : Bool} {kind id : Int} (h1 : kind ≠ 1) (h4 : kind ≠ 4) (h5 : kind ≠ 5) : tokS there nk tk te eq kind id = false := by
  unfold tokS; rw [if_neg h1, if_neg h4, if_neg h5]; simp

set_option maxRecDepth 100000 in
set_option maxHeartbeats 3200000 in
theorem l02TurnOk_any (A : Option Addr) (n c : Nat) (ks : List LinkD) (kind : Int) (name to_ : ByteArray) (id : Int) (w : World) (hr : RdL w w.heap.size A ks) (hl : ks.length = n) (hn : n ≤ 1099511627776) (h1 : name.size ≤ maxLen) (h2 : to_.size ≤ maxLen) :
    Calls Tryd.prog 25 #[.slice A n c, .agg #[.int .i64 kind, .string name, .string to_, .int .i64 id]] w fun e w' => e = .returned (.bool (turnOkS ks ⟨kind, name, to_, id⟩)) ∧ Below w.heap.size w w' := by
  have hF := Lib.hid (fun W (h : RdL W W.heap.size A ks) => l02Find_any A n c ks name W h hl hn)
  have hN := Lib.hid (fun W => fnExactNameOk.spec_any name W h1)
  have hT := Lib.hid (fun W => fnExactNameOk.spec_any to_ W h2)
  have HR := Lib.hid hr
  unfold turnOkS
  simp only
  generalize findD ks name.toList = f at *
  generalize madeB nb 16 name.data.toList = nk at *
  generalize madeB nb 16 to_.data.toList = tk at *
  clear hl hr h1 h2
  have hb0 := Lib.hid ((Below.refl w.heap.size w).alloc (Nat.le_refl _) (.cells #[.int .i64 kind, .string name, .string to_, .int .i64 id] 63))
  by_cases hf : 0 < f
  all_goals
    have hfd : decide (0 < f) = decide (0 < f) := rfl
    first | rw [decide_eq_true hf] | rw [decide_eq_false hf]
    go_enter Tryd.func25, Tryd.ntmps25
    go_wp2_with fail
    refine (hF.out _ ((HR.out.below (Nat.le_refl _) hb0.out).more (by simp))).mono ?_
    rintro e v1 ⟨rfl, hb1⟩
    obtain ⟨hc1, _⟩ := bcell hb1
    have hz1 : w.heap.size < v1.heap.size := by have := hb1.size; simp at this; omega
    have q0 : v1.cell? ⟨w.heap.size, 0, none⟩ = some (.int .i64 kind) := by rw [hc1 _ _ (by simp), World.cell?_alloc_at _ _ _ _ rfl]; rfl
    have q1 : v1.cell? ⟨w.heap.size, 1, none⟩ = some (.string name) := by rw [hc1 _ _ (by simp), World.cell?_alloc_at _ _ _ _ rfl]; rfl
    have q2 : v1.cell? ⟨w.heap.size, 2, none⟩ = some (.string to_) := by rw [hc1 _ _ (by simp), World.cell?_alloc_at _ _ _ _ rfl]; rfl
    have q3 : v1.cell? ⟨w.heap.size, 3, none⟩ = some (.int .i64 id) := by rw [hc1 _ _ (by simp), World.cell?_alloc_at _ _ _ _ rfl]; rfl
    have HB1 := Lib.hid (hb0.out.trans (hb1.mono (by simp)))
    clear hb1 hc1 hfd
    go_wp2_with fail
    refine (hN.out _).mono ?_
    rintro e w' ⟨rfl, rfl⟩
    cases nk
    · go_wp2_with fail
      go_ret
      exact ⟨ret_bool (by simp [tokS]), HB1.out⟩
    · by_cases k1 : kind = 1
      · subst k1
        go_wp2_with fail
        all_goals (first | (exfalso; omega) | (go_ret; exact ⟨ret_bool (by unfold tokS; simp_all), HB1.out⟩))
      · by_cases k4 : kind = 4
        · subst k4
          go_wp2_with fail
          refine (hT.out _).mono ?_
          rintro e w' ⟨rfl, rfl⟩
          cases tk
          · go_wp2_with fail
            go_ret
            exact ⟨ret_bool (by simp [tokS]), HB1.out⟩
          · cases heq : (to_.toList == name.toList)
            all_goals
              have hne : (!(to_.toList == name.toList)) = !(to_.toList == name.toList) := rfl
              go_wp2_with fail
              all_goals (first | (exfalso; omega) | (go_ret; exact ⟨ret_bool (by unfold tokS; simp_all), HB1.out⟩))
        · by_cases k5 : kind = 5
          · subst k5
            go_wp2_with fail
            all_goals (first | (exfalso; omega) | (go_ret; exact ⟨ret_bool (by unfold tokS; simp_all), HB1.out⟩))
          · have HV := Lib.hid (tokS_no (nk := true) (tk := tk) (te := to_.toList.isEmpty) (eq := to_.toList == name.toList) (there := decide (0 < f)) (id := id) k1 k4 k5)
            have e1 : (kind == 1) = false := by simp; omega
            have e4 : (kind == 4) = false := by simp; omega
            have e5 : (kind == 5) = false := by simp; omega
            clear k1 k4 k5
            first | (rw [decide_eq_true hf] at HV) | (rw [decide_eq_false (by omega : ¬ 0 < f)] at HV)
            go_wp2_with fail
            go_ret
            exact ⟨ret_bool HV.out.symm, HB1.out⟩
end Go.Proofs.YtckiloacbanbmaaDoor.DOk
